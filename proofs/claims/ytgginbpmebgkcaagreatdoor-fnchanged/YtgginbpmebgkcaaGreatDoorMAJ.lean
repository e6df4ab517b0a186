import Derived.Deep.MidRow
import Derived.Deep.QuietTactic
import Derived.Deep.CutRange
import Derived.Deep.RegionWith
import Derived.Deep.RegionHeld3
import Derived.Deep.DrawnRows
import Derived.Test.YtgginbpmebgkcaaGreatDoorMAC
import Derived.Test.YtgginbpmebgkcaaGreatDoorMAH
namespace Go.Proofs.YtgginbpmebgkcaaGreatDoor
open Go.RowKit Go.Proofs.Tryz
attribute [local go_sem ↓] Go.wp_at_zero Go.wp_at_succ
set_option linter.unusedVariables false
set_option maxRecDepth 100000
set_option maxHeartbeats 25600000
theorem Qg{p:Prop}(h:p):dm p:=h
theorem Qgk{k:IntKind}{a b:Int}(h:a=b):Ending.returned (.int k a)=.returned (.int k b):=by rw [h]
theorem QaN(n P:Nat)(hn:n<=62)(hP:2^n=P)(w:World):Calls prog 41 #[.int .i64 n] w fun e w'=>e=.returned (.int .i64 P)/\w'=w:=by
 have HQ:=Qg hP;clear hP;go_enter func41,ntmps41;go_wp2_with fail;go_loop [3,4] (fun x i=>∃(k p:Nat),k<=n/\i=.int .i64 k/\x=.int .i64 p/\dm (p=2^k)) (fun _ i=>n-(intOf i).toNat)
 case atStart=>exact ⟨0,1,Nat.zero_le _,rfl,rfl,(rfl:1=2^0)⟩
 case round=>
  obtain ⟨k,p,hk,rfl,rfl,HP⟩:=hrel;by_cases ab:k<n
  ·have N:p<=2305843009213693952:=by
    rw [HP.u];exact Nat.le_trans (Nat.pow_le_pow_right dk (by omega:k<=61)) dn
   go_wp2_with fail;go_round
   case rel=>exact ⟨k+1,2*p,dk,dw,dw,(by rw [HP.u,Nat.pow_succ];omega:2*p=2^(k+1))⟩
   case measure=>simp [intOf];omega
  ·have e:k=n:=dk
   subst e;go_wp2_with fail;go_ret;have a:p=P:=by rw [HP.u,HQ.u]
   exact ⟨by rw [a];rfl,rfl⟩
theorem QdZ(ao:Option Addr)(cap:Nat)(zs:List Int)(w:World)(hr:Qv w ao zs)(hn:zs.length<=1048576):
  Calls prog 102 #[.slice ao zs.length cap] w fun e w'=>e=.returned (.int .i64 (hk zs))/\∃q,w'=w.drewN q:=by
 by_cases hl:zs.length<=320
 ·go_enter func102,ntmps102
  go_wp2_with fail;go_loopw [3,4,5] (fun k n i wr=>∃(j K N:Nat),j<=zs.length/\i=.int .i64 j/\k=.int .i64 K/\n=.int .i64 N/\dm (K=kr (zs.take j))/\dm (N=nz (zs.take j))/\dm (okL (zs.take j))/\∃q,wr=w.drewN q) (fun _ _ i _=>zs.length-(intOf i).toNat)
  case atStart=>exact ⟨0,0,0,Nat.zero_le _,rfl,rfl,rfl,(rfl:0=kr (zs.take 0)),(rfl:0=nz (zs.take 0)),(fun z r=>by simp at r:okL (zs.take 0)),0,rfl⟩
  case round=>
   obtain ⟨j,K,N,hj,rfl,rfl,rfl,HK,HN,HO,q,rfl⟩:=hrel;have hK:K<=5242880:=by
    have J:=QrI<|zs.take j
    rw [HK.u];have:(zs.take j).length<=320:=du;omega
   have hN:N<=320:=by
    have J:=Qrz<|zs.take j
    rw [HN.u];have:(zs.take j).length<=320:=du;omega
   by_cases ab:j<zs.length
   ·obtain ⟨b,U,rfl,I⟩:=hr.at ab
    have g:=I j ab;have l:(w.drewN q).cell? ⟨b,U+j,none⟩=some (.int .i64 (zs.getD j 0)):=g;have HB:dm (¬(0<=zs.getD j 0/\zs.getD j 0<=15)->okB zs=false):=fun h=>Qls ab h
    have p:dm ((0<=zs.getD j 0/\zs.getD j 0<=15)->okL (zs.take (j+1))):=fun h=>QcU ab HO.u h
    have a':dm (kr (zs.take (j+1))=K+if 0<zs.getD j 0 then 2^(15-(zs.getD j 0).toNat) else 0):=by show _=_;rw [Vg zs j ab,Qqj,HK.u]
    have c:dm (nz (zs.take (j+1))=N+if 0<zs.getD j 0 then 1 else 0):=by show _=_;rw [Vg zs j ab,Qq6,HN.u]
    generalize zs.getD j 0=x at*;clear I hr g HK HN HO;by_cases V:x<0
    ·exact mN
    ·have d0:decide (x<0)=false:=decide_eq_false V
     by_cases u:15<x
     ·exact mN
     ·have d1:decide (15<x)=false:=decide_eq_false u
      have s:=Qg<|p.u dk
      obtain ⟨y,rfl⟩:∃y:Nat,x=y:=⟨x.toNat,dk⟩;by_cases x2:0<y
      ·have r:(15:Int)-(y:Int)=((15-y:Nat):Int):=dk
       obtain ⟨P,hP⟩:=dt (2^(15-y));have HP:dm _:=QaN (15-y) P dk hP;have aa:P<=16384:=hP▸Nat.le_trans (Nat.pow_le_pow_right dk (by omega:15-y<=14)) dn;have R:dm (K+P=kr (zs.take (j+1))):=by show _=_;rw [a'.u,if_pos dk,Int.toNat_natCast,hP]
       have f:dm (N+1=nz (zs.take (j+1))):=by show _=_;rw [c.u,if_pos dk]
       obtain ⟨Y,hY⟩:=dt (15-y);rw [hY] at r HP;clear HB p a' c hP hY;go_wp2_with fail;refine Calls.mono (HP.u _) ?_;rintro e w1 ⟨rfl,rfl⟩;go_wp2_with fail;go_roundw
       case rel=>exact ⟨j+1,K+P,N+1,dk,dw,dw,dw,R,f,s,q,rfl⟩
       case measure=>simp [intOf];omega
      ·have R:dm (K=kr (zs.take (j+1))):=by show _=_;rw [a'.u,if_neg dk];rfl
       have f:dm (N=nz (zs.take (j+1))):=by show _=_;rw [c.u,if_neg dk];rfl
       clear HB p a' c;go_wp2_with fail;go_roundw
       case rel=>exact ⟨j+1,K,N,dk,dw,rfl,rfl,R,f,s,q,rfl⟩
       case measure=>simp [intOf];omega
   ·have e:j=zs.length:=dk
    have HF:dm (hk zs=Qdx N K):=by
     show _=_;have A:okL zs:=mO;rw [hk,QmR hl A,if_pos rfl,HN.u,HK.u,e,List.take_length]
    have a:dm _:=QaN 15 32768 dk dn;have d:dm _:=QaN 14 16384 dk dn;clear HK HN HO hr;by_cases O:N=0
    ·subst O
     have HG:dm (5=hk zs):=by show _=_;rw [HF.u];rfl
     go_wp2_with fail;go_ret;exact ⟨Qgk HG.u,q,rfl⟩
    ·by_cases k0:32768<K
     ·have HG:dm (2=hk zs):=by show _=_;rw [HF.u,Qdx,if_neg O,if_pos k0]
      go_wp2_with fail;refine Calls.mono (a.u _) ?_;exact jo
     ·by_cases k1:K=32768
      ·have HG:dm (1=hk zs):=by show _=_;rw [HF.u,Qdx,if_neg O,if_neg k0,if_pos k1]
       subst k1;exact mP
      ·have v:((K:Int) == 32768)=false:=du
       by_cases Z:N=1
       ·subst Z
        by_cases k2:K=16384
        ·have HG:dm (4=hk zs):=by show _=_;rw [HF.u,k2];rfl
         exact mQ
        ·have HG:dm (3=hk zs):=mR
         have m:((K:Int) == 16384)=false:=du;exact mQ
       ·have HG:dm (3=hk zs):=mR
        have o:((N:Int) == 1)=false:=du;exact mP
 ·have HF:dm (0=hk zs):=by show _=_;rw [hk,Qjy hl];rfl
  go_enter func102,ntmps102;go_wp2_with fail;go_ret;exact ⟨Qgk HF.u,0,rfl⟩
def cells16(f:Nat->Nat):List Value:=(List.range 16).map (fun i=>Value.int .i64 (f i:Nat))
theorem QaY(f:Nat->Nat):(cells16 f).length=16:=by simp [cells16]
theorem Qbv(f:Nat->Nat)(i:Nat)(h:i<16):(cells16 f)[i]?=some (Value.int .i64 (f i:Nat)):=by simp [cells16,h]
def Qcn(c r f1:Nat):Int:=if c=0 then 5 else if 32768<r then 2 else if r=32768 then 1 else if c=1/\f1=1 then 4 else 3
theorem QiB{zs:List Int}(h:okB zs=true):Qcn (VC (cnt zs) 15) (VC (fun l=>cnt zs l*2^(15-l)) 15) (cnt zs 1)=hk zs:=by
 obtain ⟨J,h2⟩:=Qcl h;rw [<-Qqm zs h2,<-Qnt zs h2,hk,h,if_pos rfl,Qcn,Qdx];by_cases Z:nz zs=1
 ·have:=Qps zs h2 Z
  simp only [Z,true_and,this]
 ·simp only [Z,false_and]
theorem Qhc(f:Nat->Nat)(L:List Value)(w:World)(hl:L.length=16)(hL:∀i,i<16->L[i]?=some (Value.int .i64 (f i:Nat)))(hf:∀i,f i<=320):
  Calls prog 93 #[.agg L.toArray] w fun e w'=>e=.returned (.int .i64 (Qcn (VC f 15) (VC (fun l=>f l*2^(15-l)) 15) (f 1)))/\Below w.heap.size w w':=by
 refine mS ?_;intro hC;have hb:Below w.heap.size w (w.alloc (.cells L.toArray 156)):=(Below.refl _ _).alloc (Nat.le_refl _) _;have HC:=Qg hC;have HB:=Qg hb;have HF:=Qg hf;clear hC hL hl hb hf;go_enter func93,ntmps93;go_wp2_with fail;go_loop [3,4,5] (fun c r l=>∃(j C R:Nat),j<=15/\l=.int .i64 ((j+1:Nat):Int)/\c=.int .i64 C/\r=.int .i64 R/\dm (C=VC f j)/\dm (R=VC (fun l=>f l*2^(15-l)) j)/\C<=320*j/\R<=5242880*j) (fun _ _ l=>16-(intOf l).toNat)
 case atStart=>exact ⟨0,0,0,dk,rfl,rfl,rfl,(rfl:0=VC f 0),(rfl:0=VC _ 0),dk,dk⟩
 case round=>
  obtain ⟨j,C,R,hj,rfl,rfl,rfl,bl,g,ag,n⟩:=hrel;by_cases ab:j<15
  ·have I:=HC.u (j+1) dk
   have b:=HF.u<|j+1
   obtain ⟨P,hP⟩:=dt (2^(14-j));have ad:P<=16384:=hP▸Nat.le_trans (Nat.pow_le_pow_right dk (by omega:14-j<=14)) dn;have aA:dm (C+f (j+1)=VC f (j+1)):=by show _=_;rw [VC,<-bl.u]
   have z:dm (R+f (j+1)*P=VC (fun l=>f l*2^(15-l)) (j+1)):=by show _=_;rw [VC,<-g.u,show 15-(j+1)=14-j by omega,hP]
   have h:f (j+1)*P<=5242880:=Nat.le_trans (Nat.mul_le_mul b ad) dn;generalize f (j+1)=F at*;have p:((2:Int)^(14-j))=(P:Int):=by rw [<-hP];exact (Int.natCast_pow 2 _).symm
   have a:(F:Int)*(P:Int)=((F*P:Nat):Int):=(Int.natCast_mul F P).symm;obtain ⟨Q,hQ⟩:=dt (F*P);rw [hQ] at a h;have HQ:=Qg hQ;clear hQ;have t:wrap64 (Q:Int)=(Q:Int):=gy;have J:wrap64 ((R:Int)+(Q:Int))=(R:Int)+(Q:Int):=gy;have k:dm (R+Q=VC (fun l=>f l*2^(15-l)) (j+1)):=by show _=_;rw [<-HQ.u];exact z.u
   clear hP z HQ;go_wp2_with fail;go_round
   case rel=>exact ⟨j+1,C+F,R+Q,dk,dw,dw,dw,aA,k,dk,dk⟩
   case measure=>simp [intOf];omega
  ·have e:j=15:=dk
   subst e;obtain ⟨F1,bE⟩:=dt (f 1);have HG:dm (∀x:Int,x=Qcn C R F1->Ending.returned (.int .i64 x)=.returned (.int .i64 (Qcn (VC f 15) (VC (fun l=>f l*2^(15-l)) 15) (f 1)))):=by
    intro x hx;rw [hx,bl.u,g.u,<-bE]
   have m:=HC.u 1 dk;rw [bE] at m;clear HC HF bl g bE;by_cases O:C=0
   ·have G:=Qg<|HG.u 5 (by rw [Qcn,if_pos O])
    subst O;exact fe
   ·by_cases k0:32768<R
    ·have G:=Qg<|HG.u 2 (by rw [Qcn,if_neg O,if_pos k0])
     exact fe
    ·by_cases k1:R=32768
     ·have G:=Qg<|HG.u 1 (by rw [Qcn,if_neg O,if_neg k0,if_pos k1])
      subst k1;exact fe
     ·have v:((R:Int) == 32768)=false:=du
      by_cases Z:C=1
      ·have o:((C:Int) == 1)=true:=du
       by_cases f1:F1=1
       ·have G:=Qg<|HG.u 4 (by rw [Qcn,if_neg O,if_neg k0,if_neg k1,if_pos ⟨Z,f1⟩])
        have d:((F1:Int) == 1)=true:=du;clear Z f1;exact fe
       ·have G:=Qg<|HG.u 3 mT
        have d:((F1:Int) == 1)=false:=du;clear Z;exact fe
      ·have G:=Qg<|HG.u 3 mT
       have o:((C:Int) == 1)=false:=du;exact fe
section
variable{w:World}{p:Nat}{f:Nat->Nat}
structure Qa5(w:World)(p:Nat)(f:Nat->Nat):Prop where
 at_:∀i,i<16->w.cell? ⟨p,i,none⟩=some (.int .i64 (f i:Nat))
 free:∀i,w.frozen? ⟨p,i,none⟩=false
theorem Qa5.lt(h:Qa5 w p f):p<w.heap.size:=World.block_lt_of_cell? w _ (h.at_ 0 dk)
theorem Qa5.grown{w':World}{row:Option Nat}(h:Qa5 w p f)(hg:w.grownBy w' row)(hne:some p≠row):Qa5 w' p f:=mU
theorem Qa5.range(h:Qa5 w p f):w.rangeAt p 0 (cells16 f):=by
 intro j v V;have hj:j<16:=by
  have J:=(List.getElem?_eq_some_iff.1 V).1;rwa [QaY] at J
 rw [Qbv f j hj] at V;exact mV
theorem Qa5.there(h:Qa5 w p f):w.there p 0 16:=mW
theorem Qa5.bump(h:Qa5 w p f){l:Nat}(hl:l<16)(v:Int)(hv:v=((f l+1:Nat):Int)):Qa5 (w.setCell ⟨p,l,none⟩ (.int .i64 v)) p (fun i=>f i+if i=l then 1 else 0):=by
 refine ⟨fun i hi=>?_,fun i=>mX⟩;by_cases e:i=l
 ·subst e;subst hv
  rw [World.cell?_setCell_same _ _ _ (h.at_ i hi)];simp
 ·exact mY
theorem Qa5.congr{g:Nat->Nat}(h:Qa5 w p f)(e:∀i,f i=g i):Qa5 w p g:=⟨fun i hi=>by rw [<-e];exact h.at_ i hi,h.free⟩
theorem Tryz.size_cnts:(prog.info? 156).map (·.size)=some 16:=by kernel_rfl
theorem Qb5(f:Nat->Nat):∀v∈cells16 f,v.oneCell'=true:=by
 intro v V;simp only [cells16,List.mem_map] at V;obtain ⟨i,_,rfl⟩:=V;rfl
theorem Qa5.new(w:World)(t:TypeId):Qa5 (w.alloc (.cells #[.int .i64 0,.int .i64 0,.int .i64 0,.int .i64 0,.int .i64 0,.int .i64 0,.int .i64 0,.int .i64 0,.int .i64 0,.int .i64 0,.int .i64 0,.int .i64 0,.int .i64 0,.int .i64 0,.int .i64 0,.int .i64 0] t)) w.heap.size (fun _=>0):=m9
theorem Q5(b:Nat):∀(vs:List Value) (o:Nat) (w:World),w.grownBy (w.setCells b o vs) (some b)
 | [],_,w=>World.grownBy.refl _ _
 | v::r,o,w=>Qj (Qf w ⟨b,o,none⟩ v) (Q5 b r (o+1) _)
theorem Qa5.alloc(h:Qa5 w p f)(o:Obj):Qa5 (w.alloc o) p f:=h.grown (World.grownBy_alloc w o none) dr
theorem Qdc(ao:Option Addr)(cap:Nat)(zs:List Int)(w:World)(hr:Qv w ao zs)(hn:zs.length<=1048576):
  Calls prog 92 #[.slice ao zs.length cap] w fun e w'=>(∃L:List Value,e=.returned (.tuple #[.agg L.toArray,.bool (okB zs)])/\L.length=16/\(∀v∈L,v.oneCell'=true)/\(okB zs=true->L=cells16 (cnt zs)))/\Below w.heap.size w w':=by
 have ak:=(Qa5.new (w.alloc (.cells #[.int .i64 0,.int .i64 0,.int .i64 0,.int .i64 0,.int .i64 0,.int .i64 0,.int .i64 0,.int .i64 0,.int .i64 0,.int .i64 0,.int .i64 0,.int .i64 0,.int .i64 0,.int .i64 0,.int .i64 0,.int .i64 0] 156)) 156);have a2:=(Qa5.new w 156).alloc (.cells #[.int .i64 0,.int .i64 0,.int .i64 0,.int .i64 0,.int .i64 0,.int .i64 0,.int .i64 0,.int .i64 0,.int .i64 0,.int .i64 0,.int .i64 0,.int .i64 0,.int .i64 0,.int .i64 0,.int .i64 0,.int .i64 0] 156);have C:Below w.heap.size w ((w.alloc (.cells #[.int .i64 0,.int .i64 0,.int .i64 0,.int .i64 0,.int .i64 0,.int .i64 0,.int .i64 0,.int .i64 0,.int .i64 0,.int .i64 0,.int .i64 0,.int .i64 0,.int .i64 0,.int .i64 0,.int .i64 0,.int .i64 0] 156)).alloc (.cells #[.int .i64 0,.int .i64 0,.int .i64 0,.int .i64 0,.int .i64 0,.int .i64 0,.int .i64 0,.int .i64 0,.int .i64 0,.int .i64 0,.int .i64 0,.int .i64 0,.int .i64 0,.int .i64 0,.int .i64 0,.int .i64 0] 156)):=((Below.refl _ _).alloc (Nat.le_refl _) _).alloc dr _;simp only [World.size_alloc] at ak;have t:=Qg ak;have aX:=Qg a2;have av:=Qg C;have HR:=Qg hr;clear ak a2 C hr;by_cases hl:zs.length<=320
 ·go_enter func92,ntmps92
  go_wp2_with fail;go_loopw [13] (fun i wr=>∃k:Nat,k<=zs.length/\i=.int .i64 k/\Qa5 wr (w.heap.size+1) (cnt (zs.take k))/\dm (okL (zs.take k))/\(∃f0,Qa5 wr w.heap.size f0)/\Below w.heap.size w wr) (fun i _=>zs.length-(intOf i).toNat)
  case atStart=>exact ⟨0,Nat.zero_le _,rfl,t.u.congr (fun i=>by simp [cnt]),(fun z hz=>by simp at hz:okL (zs.take 0)),⟨_,aX.u⟩,av.u⟩
  case round=>
   clear t aX av;obtain ⟨k,hk,rfl,hC,HO,⟨f0,f⟩,a⟩:=hrel;by_cases ab:k<zs.length
   ·obtain ⟨b,U,rfl,I⟩:=HR.u.at ab
    refine jr ?_;intro hb a5;have aK:dm (¬(0<=zs.getD k 0/\zs.getD k 0<=15)->okB zs=false):=fun h=>Qls ab h
    have p:dm ((0<=zs.getD k 0/\zs.getD k 0<=15)->okL (zs.take (k+1))):=fun h=>QcU ab HO.u h
    have A:dm (∀i,cnt (zs.take (k+1)) i=cnt (zs.take k) i+if zs.getD k 0=(i:Int) then 1 else 0):=by
     intro i;rw [Vg zs k ab,QdE]
    generalize zs.getD k 0=x at*;by_cases V:x<0
    ·exact na
    have d0:decide (x<0)=false:=decide_eq_false V;by_cases u:15<x
    ·exact na
    have d1:decide (15<x)=false:=decide_eq_false u;have s:=Qg<|p.u dk
    obtain ⟨l,rfl⟩:∃l:Nat,x=l:=⟨x.toNat,dk⟩;have aG:l<16:=dk;have Z:=hC.at_ l aG;have hfl:=hC.free l;have az:cnt (zs.take k) l<=320:=Nat.le_trans (QcB _ _) du;have aa:=hC.bump aG ((cnt (zs.take k) l:Nat)+1:Int) dr;have aA:dm (Qa5 (wr.setCell ⟨w.heap.size+1,l,none⟩ (.int .i64 ((cnt (zs.take k) l:Nat)+1:Int))) (w.heap.size+1) (cnt (zs.take (k+1)))):=aa.congr (fun i=>by
     rw [A.u i];by_cases h:i=l
     ·simp [h]
     ·have y:¬(l:Int)=(i:Int):=dk
      simp [h,y])
    have O:=Qf wr ⟨w.heap.size+1,l,none⟩ (.int .i64 ((cnt (zs.take k) l:Nat)+1:Int));have aB:=Qg<|f.grown O dr
    have d:=Qg<|a.grown O a.size ef
    clear I hC f a A aa O aK p;generalize cnt (zs.take k) l=F at*;go_wp2_with fail;go_roundw
    case rel=>exact ⟨k+1,dk,dw,aA.u,s,⟨_,aB.u⟩,d.u⟩
    case measure=>simp [intOf];omega
   ·have e:k=zs.length:=dk
    have HF:dm (okB zs=true):=QmR hl mO;have HE:dm (cnt (zs.take k)=cnt zs):=by show _=_;rw [e,List.take_length]
    clear e;obtain ⟨L,hL⟩:=dt (cells16 (cnt (zs.take k)));have o:=hC.range;have n:=f.there;have m:=Qb5<|cnt (zs.take k)
    have ai:=QaY<|cnt (zs.take k)
    rw [hL] at o m ai;refine js ?_;intro D c g E;have HL:=Qg hL;refine nb ?_;intro au j a1 r B;clear n hC f hL m ai r g;go_wp2_with (first|(refine wpList_load_mid rfl _ _ rfl _ _ rfl L _ o underlying156 rfl D ?_)|(refine wpList_store_mid rfl _ _ _ rfl w.heap.size 0 L.toArray rfl rfl (by simpa using c) dQ a1.u ?_))
    refine bodyPost_ret (v:=.tuple #[.agg L.toArray,.bool true]) nf rfl ⟨⟨L,?_,au.u,j.u,?_⟩,E.u⟩
    ·rw [HF.u]
    ·intro _;rw [<-HL.u,HE.u]
 ·have HF:dm (okB zs=false):=Qjy hl
  have hC:=t.u;have f:=aX.u;have a:=av.u;obtain ⟨wr,a7⟩:∃wr,wr=(w.alloc (.cells #[.int .i64 0,.int .i64 0,.int .i64 0,.int .i64 0,.int .i64 0,.int .i64 0,.int .i64 0,.int .i64 0,.int .i64 0,.int .i64 0,.int .i64 0,.int .i64 0,.int .i64 0,.int .i64 0,.int .i64 0,.int .i64 0] 156)).alloc (.cells #[.int .i64 0,.int .i64 0,.int .i64 0,.int .i64 0,.int .i64 0,.int .i64 0,.int .i64 0,.int .i64 0,.int .i64 0,.int .i64 0,.int .i64 0,.int .i64 0,.int .i64 0,.int .i64 0,.int .i64 0,.int .i64 0] 156):=⟨_,rfl⟩;rw [<-a7] at hC f a;obtain ⟨L,hL⟩:=dt (cells16 (fun _=>0));have o:=hC.range;have n:=f.there;have m:=Qb5 (fun _=>0);have ai:=QaY (fun _=>0);rw [hL] at o m ai;refine js ?_;intro D c g E;have au:=Qg ai;have j:=Qg m;have a1:=Qg<|all_oneCell_toArray m
  have B:=Qg<|run_loadVar_mid (P:=prog) _ w.heap.size 0 156 L _ g.u underlying156 rfl D
  subst a7;clear n hC f hL m ai g;go_enter func92,ntmps92;exact ng
end
theorem Qec(ao:Option Addr)(cap:Nat)(zs:List Int)(w:World)(hr:Qv w ao zs)(hn:zs.length<=1048576):
  Calls prog 205 #[.slice ao zs.length cap] w fun e w'=>e=.returned (.int .i64 (hk zs))/\Below w.heap.size w w':=by
 have HC:=Qg<|Qdc ao cap zs w hr hn
 clear hr;go_enter func205,ntmps205;go_wp2_with fail;refine Calls.mono HC.u ?_;rintro e w1 ⟨⟨L,rfl,ai,m,P⟩,aj⟩;refine nk ?_;intro hN D n o ah a1 d au u;clear hN HC aj ah m P ai;by_cases A:okB zs=true
 ·have aE:=u.u A
  have HK:=Qg (fun W=>Qhc (cnt zs) L W au.u jt (fun i=>Nat.le_trans (QcB _ _) (Qcl A).1));have aM:=Qg<|QiB A
  rw [A];clear aE;go_wp2_with (first|(refine wpList_store_mid rfl _ _ _ rfl w1.heap.size 0 L.toArray rfl rfl gC dQ a1.u ?_)|(refine wpList_load_mid rfl _ _ rfl _ _ rfl L _ o underlying156 rfl D ?_))
  refine Calls.mono (HK.u _) ?_;rintro e w2 ⟨rfl,r⟩;rw [aM.u];have a:=d.u.trans<|r.mono d.u.size
  clear r HK;go_wp2_with fail;go_ret;exact ⟨rfl,a⟩
 ·have A:okB zs=false:=by simpa using A
  have HF:dm (0=hk zs):=by show _=_;rw [hk,A];rfl
  rw [A];go_wp2_with (first|(refine wpList_store_mid rfl _ _ _ rfl w1.heap.size 0 L.toArray rfl rfl gC dQ a1.u ?_)|(refine wpList_load_mid rfl _ _ rfl _ _ rfl L _ o underlying156 rfl D ?_))
  go_ret;exact ⟨Qgk HF.u,d.u⟩
end Go.Proofs.YtgginbpmebgkcaaGreatDoor
