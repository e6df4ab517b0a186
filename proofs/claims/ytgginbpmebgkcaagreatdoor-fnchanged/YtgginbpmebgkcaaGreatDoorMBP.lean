import Derived.Test.YtgginbpmebgkcaaGreatDoorMBK
import Derived.Test.YtgginbpmebgkcaaGreatDoorMBO
namespace Go.Proofs.YtgginbpmebgkcaaGreatDoor
open Go.RowKit Go.Proofs.Tryz
attribute [local go_sem ↓] Go.wp_at_zero Go.wp_at_succ
set_option linter.unusedVariables false
set_option maxRecDepth 100000
set_option maxHeartbeats 25600000
section
variable{zs:List Int}
def byN(zs:List Int):Nat->RR->RR
 | 0,r=>r
 | n+1,r=>if r.2=0 then byN zs n (tk zs r 8).1 else r
def txN(zs:List Int):Nat->RR->RR
 | 0,r=>r
 | n+1,r=>if r.2=0 then (if (tk zs r 8).2=0 then (tk zs r 8).1 else txN zs n (tk zs r 8).1) else r
theorem QkW(zs:List Int)(n:Nat)(r:RR)(h:r.2≠0):byN zs n r=r:=by
 cases n with
 | zero=>rfl
 | succ n=>unfold byN;rw [if_neg h]
theorem QkJ(zs:List Int)(n:Nat)(r:RR)(h:r.2≠0):txN zs n r=r:=by
 cases n with
 | zero=>rfl
 | succ n=>unfold txN;rw [if_neg h]
theorem Qof:∀(n:Nat) (r:RR),r.1<=8*zs.length->(byN zs n r).1<=8*zs.length:=by
 intro n;induction n with
 | zero=>exact fun r h=>h
 | succ n ih=>
  intro r h;unfold byN;split
  ·exact ih _ (Qar h)
  ·exact h
theorem Qov:∀(n:Nat) (r:RR),r.1<=8*zs.length->(txN zs n r).1<=8*zs.length:=by
 intro n;induction n with
 | zero=>exact fun r h=>h
 | succ n ih=>
  intro r h;unfold txN;split
  ·split
   ·exact Qar h
   ·exact ih _ (Qar h)
  ·exact h
theorem QkO(w:World)(A A2:Obj)(e:TypeId):(((w.alloc A).alloc A2).alloc (.cells #[] e)).ownsRow (w.heap.size+2) e 1 (.slice (some ⟨w.heap.size+2,0,none⟩) 0 0) 0 []:=by
 have h:=World.ownsRow_lit (base:=w.heap.size+2) (e:=e) (size:=1) ((w.alloc A).alloc A2) #[] 0 dr dy rfl;rw [World.size_alloc,World.size_alloc] at h;exact h
theorem Qii(ao:Option Addr)(cap:Nat)(zs:List Int)(i n:Nat)(cl:Int)(w:World)(hr:Q1 w ao zs)(hz:Qh zs)(hzl:zs.length<=65536)(hi:i<=8*zs.length)(hn:n<=65535):
  Calls prog 83 #[.agg #[.slice ao zs.length cap,.int .i64 (i:Nat),.int .i64 cl],.int .i64 (n:Nat)] w fun e w'=>
   ∃a m c,e=.returned (.tuple #[.agg #[.slice ao zs.length cap,.int .i64 ((byN zs n (i,cl)).1:Nat),.int .i64 (byN zs n (i,cl)).2],.slice a m c])/\Below w.heap.size w w':=by
 refine qS ?_;intro i0 aU af ak aq aw;obtain ⟨t,ht⟩:=dt (byN zs n (i,cl));rw [ht];have HT:=Qe ht;have P:=Qe hi;clear hr hz ht hi;generalize hZ:zs.length=Z at*;have HZ:=Qe hZ;clear hZ;refine qT ?_;intro B1 R1 L1 O1 S1;go_enter func83,ntmps83;go_wp2_with fail;generalize ((w.alloc (.cells #[.slice ao Z cap,.int .i64 (i:Nat),.int .i64 cl] 85)).alloc (.cells #[.slice none 0 0,.int .i64 0,.int .i64 0] 85)).alloc (.cells #[] 5)=W0 at*;go_loopw [6,7,8] (fun vo vk _ wr=>∃(k T c:Nat) (cr:Int) (a:Option Addr) (L:List Int),k<=n/\vo=.slice a L.length c/\vk=.int .i64 (k:Nat)/\L.length<=k/\dm (byN zs (n-k) (T,cr)=t)/\dm (T<=8*Z)/\dm (L5m wr w.heap.size (.slice ao Z cap) (T:Nat) cr)/\dm (L5m wr (w.heap.size+1) (.slice none 0 0) 0 0)/\dm (Qi 5 (w.heap.size+2) wr a c L)/\dm (w.heap.size+2<=wr.heap.size)/\dm (Below w.heap.size w wr)) (fun _ vk _ _=>n-(intOf vk).toNat)
 case atStart=>exact ⟨0,i,0,cl,_,[],Nat.zero_le _,rfl,rfl,Nat.zero_le _,HT,P,B1,R1,O1,S1,L1⟩
 case round=>
  clear B1 R1 L1 HT P O1 S1;obtain ⟨k,T,c,cr,a,L,hk,rfl,rfl,hL,b,P,HB,HR,HO,HS,HL⟩:=hrel;by_cases ab:k<n/\cr=0
  ·obtain ⟨ab,aI⟩:=ab
   subst aI;refine qU ?_;intro TK hb a0;have l:dm (byN zs (n-(k+1)) ((tk zs (T,0) 8).1.1,(tk zs (T,0) 8).1.2)=t):=ov;obtain ⟨b0,b1,b2,C⟩:=HB.u;clear C;generalize (tk zs (T,0) 8).1.1=i2 at*;generalize (tk zs (T,0) 8).1.2=c2 at*;generalize (tk zs (T,0) 8).2=y at*;have ad:IntKind.u8.wrap (y:Int)=(y:Int):=dV;clear b P;go_wp2_with fail;refine Calls.mono TK.u ?_;rintro e w1 ⟨rfl,aj⟩;refine qV ?_;intro B2 R2 O2 j s L2;clear aj TK HB HR HL b0 b1 b2 HO HS;refine qW ?_;intro E R3 K D s3;obtain ⟨b0,b1,b2,C⟩:=B2.u;refine dA ?_;intro ag G ae;clear C;go_upto_region 7 with fail;generalize (((w1.setCell ⟨w.heap.size,0,none⟩ (.slice ao Z cap)).setCell ⟨w.heap.size,1,none⟩ (.int .i64 (i2:Nat))).setCell ⟨w.heap.size,2,none⟩ (.int .i64 c2))=W3 at*;clear b0 b1 b2 ag G ae B2 R2 O2 L2 j;obtain ⟨b0,b1,b2,_⟩:=E.u.1;by_cases al:c2=0
   ·subst al
    have B:=Qe (fun A t=>K.u.below ((Below.refl _ _).alloc (Nat.le_refl _) (.cells A t)));go_wp2_with (at_builtin;refine Qm _ rfl _ _ 22 rfl (w.heap.size+2) 5 i0 (.int .u8 0) 1 underlying22 aU af ak aq rfl (.slice a L.length c) L.length (L.map (Value.int .u8)) rfl (B.u _ _) (some ⟨W3.heap.size,0,none⟩) 1 [(y:Int)] rfl (Qbu W3 y 5) (fun e=>dx) dK du du ?_)
    intro v' w5 R Q aa;have H:w5.ownsRow (w.heap.size+2) 5 1 v' (L.length+1) ((L++[(y:Int)]).map (Value.int .u8)):=eU;obtain ⟨a3,ar,rfl,S⟩:=Qi.of H;rw [QA] at Q;refine qX ?_;intro hA hx g R5 p Y r;have O:(L++[(y:Int)]).length<=k+1:=du;generalize L++[(y:Int)]=o at*;clear R H Q aa S hA hx B E R3 K D s3 b0 b1 b2;go_wp2_with fail;go_roundw
    case rel=>exact ⟨k+1,i2,ar,0,a3,o,dk,rfl,dw,O,l,a0,g,R5,Y,r,p⟩
    case measure=>simp [intOf];omega
   ·have az:(c2 == 0)=false:=by simp [al]
    clear al;go_wp2_with fail;go_roundw
    case rel=>exact ⟨k+1,i2,c,c2,a,L,dk,rfl,dw,dk,l,a0,E.u.1,R3,K,s3,D⟩
    case measure=>simp [intOf];omega
  ·have ht:t=(T,cr):=by
    have J:=b.u;by_cases f:k<n
    ·rw [QkW zs _ _ (fun e=>ab ⟨f,e⟩)] at J
     exact J.symm
    ·rw [show n-k=0 by omega] at J
     exact J.symm
   have d:=Qe ht;have ai:decide ((k:Int)<(n:Int))=true/\(cr == 0)=false\/decide ((k:Int)<(n:Int))=false:=by
    by_cases f:k<n
    ·left
     exact ⟨decide_eq_true dk,by simp;exact fun e=>ab ⟨f,e⟩⟩
    ·right
     exact decide_eq_false dk
   obtain ⟨b0,b1,b2,_⟩:=HB.u;refine jP ?_;intro E D r0 r1 r2 rf aE aC aD;clear rf ht b ab;rcases ai with ⟨J,h2⟩|J
   ·have z:k<n:=by have:=of_decide_eq_true J;omega
    exact qY
   ·have z:¬k<n:=by have:=of_decide_eq_false J;omega
    exact qY
theorem Qkg(ao:Option Addr)(cap:Nat)(zs:List Int)(i:Nat)(cl:Int)(w:World)(hr:Q1 w ao zs)(hz:Qh zs)(hzl:zs.length<=65536)(hi:i<=8*zs.length):
  Calls prog 84 #[.agg #[.slice ao zs.length cap,.int .i64 (i:Nat),.int .i64 cl]] w fun e w'=>
   ∃a m c,e=.returned (.tuple #[.agg #[.slice ao zs.length cap,.int .i64 ((txN zs (zs.length+1) (i,cl)).1:Nat),.int .i64 (txN zs (zs.length+1) (i,cl)).2],.slice a m c])/\Below w.heap.size w w':=by
 refine qS ?_;intro i0 aU af ak aq aw;obtain ⟨t,ht⟩:=dt (txN zs (zs.length+1) (i,cl));rw [ht];have u:dm (∀T:Nat,(tk zs (T,0) 8).2≠0->(tk zs (T,0) 8).1=(T+8,0)/\T+8<=8*zs.length):=fun T h=>by
  by_cases M:T+8<=8*zs.length
  ·rw [QG M]
   exact ⟨rfl,M⟩
  ·rw [Vm M] at h
   exact absurd rfl h
 have HT:=Qe ht;have P:=Qe hi;clear hr hz ht hi;generalize hZ:zs.length=Z at*;have HZ:=Qe hZ;clear hZ;refine qT ?_;intro B1 R1 L1 O1 S1;go_enter func84,ntmps84;go_wp2_with fail;generalize ((w.alloc (.cells #[.slice ao Z cap,.int .i64 (i:Nat),.int .i64 cl] 85)).alloc (.cells #[.slice none 0 0,.int .i64 0,.int .i64 0] 85)).alloc (.cells #[] 5)=W0 at*;go_loopw [4,5] (fun vo _ wr=>∃(T c:Nat) (cr:Int) (a:Option Addr) (L:List Int),vo=.slice a L.length c/\L.length<=Z/\dm (txN zs (Z-L.length+1) (T,cr)=t)/\dm (cr=0->8*L.length<=T)/\dm (T<=8*Z)/\dm (L5m wr w.heap.size (.slice ao Z cap) (T:Nat) cr)/\dm (L5m wr (w.heap.size+1) (.slice none 0 0) 0 0)/\dm (Qi 5 (w.heap.size+2) wr a c L)/\dm (w.heap.size+2<=wr.heap.size)/\dm (Below w.heap.size w wr)) (fun vo _ _=>match vo with|.slice _ n _=>Z-n|_=>0)
 case atStart=>exact ⟨i,0,cl,_,[],rfl,Nat.zero_le _,HT,(fun _=>Nat.zero_le _),P,B1,R1,O1,S1,L1⟩
 case round=>
  clear B1 R1 L1 HT P O1 S1;obtain ⟨T,c,cr,a,L,rfl,hL,b,l,P,HB,HR,HO,HS,HL⟩:=hrel;by_cases aI:cr=0
  ·subst aI
   refine qU ?_;intro TK hb a0;have f:dm ((tk zs (T,0) 8).2=0->t=((tk zs (T,0) 8).1.1,(tk zs (T,0) 8).1.2)):=fun h=>by
    have J:=b.u;unfold txN at J;rw [if_pos rfl,if_pos h] at J;exact J.symm
   have q:dm ((tk zs (T,0) 8).2≠0->L.length+1<=Z/\8*(L.length+1)<=(tk zs (T,0) 8).1.1/\(tk zs (T,0) 8).1.2=0/\txN zs (Z-(L.length+1)+1) ((tk zs (T,0) 8).1.1,(tk zs (T,0) 8).1.2)=t):=fun h=>by
    obtain ⟨h2,h3⟩:=u.u T h;have h4:=l.u rfl;have J:=b.u;unfold txN at J;rw [if_pos rfl,if_neg h,h2] at J;rw [h2];refine ⟨dk,by show 8*(L.length+1)<=T+8;omega,rfl,?_⟩;rw [show Z-(L.length+1)+1=Z-L.length by omega];exact J
   obtain ⟨b0,b1,b2,C⟩:=HB.u;clear C;generalize (tk zs (T,0) 8).1.1=i2 at*;generalize (tk zs (T,0) 8).1.2=c2 at*;generalize (tk zs (T,0) 8).2=y at*;have ad:IntKind.u8.wrap (y:Int)=(y:Int):=dV;clear b P l;go_wp2_with fail;refine Calls.mono TK.u ?_;rintro e w1 ⟨rfl,aj⟩;refine qV ?_;intro B2 R2 O2 j s L2;clear aj TK HB HR HL b0 b1 b2 HO HS;refine qW ?_;intro E R3 K D s3;obtain ⟨b0,b1,b2,C⟩:=B2.u;refine dA ?_;intro ag G ae;clear C;go_upto_region 5 with fail;generalize (((w1.setCell ⟨w.heap.size,0,none⟩ (.slice ao Z cap)).setCell ⟨w.heap.size,1,none⟩ (.int .i64 (i2:Nat))).setCell ⟨w.heap.size,2,none⟩ (.int .i64 c2))=W3 at*;clear b0 b1 b2 ag G ae B2 R2 O2 L2 j;obtain ⟨b0,b1,b2,_⟩:=E.u.1;by_cases hy:y=0
   ·have d:=Qe<|f.u hy
    subst hy;have E4:=Qe<|R3.u.set (.slice ao Z cap) (i2:Nat) c2
    have L4:=Qe<|D.u.grown E4.u.2 D.u.size dz
    obtain ⟨r0,r1,r2,rf⟩:=R3.u;refine dY ?_;intro aE aC aD;clear rf f q;go_wp2_with fail;obtain ⟨⟨y0,F,y2,_⟩,_⟩:=E4.u;exact bodyPost_ret (v:=.tuple #[.agg #[.slice ao Z cap,.int .i64 (i2:Nat),.int .i64 c2],.slice a L.length c]) qZ rfl ⟨a,L.length,c,by rw [d.u],L4.u⟩
   ·obtain ⟨q1,q2,q3,q4⟩:=q.u hy
    have HQ:=Qe<|And.intro q2 (And.intro q3 q4)
    have x:((y:Int) == 0)=false:=du;have B:=Qe (fun A t=>K.u.below ((Below.refl _ _).alloc (Nat.le_refl _) (.cells A t)));clear hy q2 q3 q4 f q;go_wp2_with (at_builtin;refine Qm _ rfl _ _ 22 rfl (w.heap.size+2) 5 i0 (.int .u8 0) 1 underlying22 aU af ak aq rfl (.slice a L.length c) L.length (L.map (Value.int .u8)) rfl (B.u _ _) (some ⟨W3.heap.size,0,none⟩) 1 [(y:Int)] rfl (Qbu W3 y 5) (fun e=>dx) dK du du ?_)
    intro v' w5 R Q aa;have H:w5.ownsRow (w.heap.size+2) 5 1 v' (L.length+1) ((L++[(y:Int)]).map (Value.int .u8)):=eU;obtain ⟨a3,ar,rfl,S⟩:=Qi.of H;rw [QA] at Q;refine qX ?_;intro hA hx g R5 p Y r;have O:(L++[(y:Int)]).length=L.length+1:=dr;generalize L++[(y:Int)]=o at*;clear R H Q aa S hA hx B E R3 K D s3 b0 b1 b2;go_wp2_with fail;go_roundw
    case rel=>exact ⟨i2,ar,c2,a3,o,rfl,by rw [O];exact q1,by rw [O];exact HQ.u.2.2,(fun _=>by rw [O];exact HQ.u.1),a0,g,R5,Y,r,p⟩
    case measure=>show Z-o.length<Z-L.length;omega
  ·have az:(cr == 0)=false:=by simp [aI]
   have ht:t=(T,cr):=by
    have J:=b.u;rw [QkJ zs _ _ aI] at J;exact J.symm
   have d:=Qe ht;obtain ⟨b0,b1,b2,_⟩:=HB.u;refine jP ?_;intro E D r0 r1 r2 rf aE aC aD;clear rf ht b aI;go_wp2_with fail;obtain ⟨⟨y0,F,y2,_⟩,_⟩:=E.u;exact bodyPost_ret (v:=.tuple #[.agg #[.slice ao Z cap,.int .i64 (T:Nat),.int .i64 cr],.slice a L.length c]) qZ rfl ⟨a,L.length,c,by rw [d.u],D.u⟩
end
end Go.Proofs.YtgginbpmebgkcaaGreatDoor
namespace Go.Proofs.YtgginbpmebgkcaaGreatDoor
open Go.RowKit Go.Proofs.Tryz
set_option linter.unusedVariables false
set_option maxRecDepth 100000
set_option maxHeartbeats 25600000
section
variable{zs:List Int}
def hdA(zs:List Int)(r:RR)(m:Nat):RR:=VJ (tk zs r 8).1 (decide ((tk zs r 8).2≠m))
def hdM(zs:List Int)(r:RR):RR:=hdA zs (hdA zs (hdA zs r 31) 139) 8
def hdF(zs:List Int)(r:RR):Nat:=(tk zs (hdM zs r) 8).2
def hdG(zs:List Int)(r:RR):RR:=VJ (tk zs (hdM zs r) 8).1 (decide (31<hdF zs r))
def hdN(zs:List Int)(r:RR):RR:=(tk zs (tk zs (tk zs (hdG zs r) 32).1 8).1 8).1
def hdX(zs:List Int)(fl:Nat)(r:RR):RR:=if fl/4%2=1 then byN zs (tk zs r 16).2 (tk zs r 16).1 else r
def hdT(zs:List Int)(fl m:Nat)(r:RR):RR:=if fl/m%2=1 then txN zs (zs.length+1) r else r
def hdS(zs:List Int)(f:Nat)(r:RR):RR:=suP (tk zs r 16).1 (decide ((tk zs r 16).2≠crcU 0 ((zs.drop f).take (r.1/8-f))%65536))
def hdC(zs:List Int)(f fl:Nat)(r:RR):RR:=if fl/2%2=1/\r.2=0 then hdS zs f r else r
def hdR(zs:List Int)(r:RR):RR:=hdC zs (r.1/8) (hdF zs r) (hdT zs (hdF zs r) 16 (hdT zs (hdF zs r) 8 (hdX zs (hdF zs r) (hdN zs r))))
theorem QoD(r:RR)(p:Bool):(suP r p).1=r.1:=by unfold suP;split<;>rfl
theorem Qob:∀(n:Nat) (r:RR),r.1<=(byN zs n r).1:=by
 intro n;induction n with
 | zero=>exact fun r=>Nat.le_refl _
 | succ n ih=>
  intro r;unfold byN;split
  ·exact Nat.le_trans (Qaf zs r 8) (ih _)
  ·exact ez
theorem Qji:∀(n:Nat) (r:RR),r.1<=(txN zs n r).1:=by
 intro n;induction n with
 | zero=>exact fun r=>Nat.le_refl _
 | succ n ih=>
  intro r;unfold txN;split
  ·split
   ·exact Qaf zs r 8
   ·exact Nat.le_trans (Qaf zs r 8) (ih _)
  ·exact ez
def gT(zs:List Int)(r:RR)(data:List Int):RR:=suP (tk zs (suP (tk zs (alP r) 32).1 (decide ((tk zs (alP r) 32).2≠crcU 0 data))) 32).1 (decide ((tk zs (suP (tk zs (alP r) 32).1 (decide ((tk zs (alP r) 32).2≠crcU 0 data))) 32).2≠data.length))
end
end Go.Proofs.YtgginbpmebgkcaaGreatDoor
