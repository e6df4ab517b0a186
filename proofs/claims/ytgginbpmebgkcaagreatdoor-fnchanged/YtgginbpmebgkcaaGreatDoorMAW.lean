import Derived.Test.YtgginbpmebgkcaaGreatDoorMAD
import Derived.Test.YtgginbpmebgkcaaGreatDoorMAN
import Derived.Test.YtgginbpmebgkcaaGreatDoorMAR
namespace Go.Proofs.YtgginbpmebgkcaaGreatDoor
open Go.RowKit Go.Proofs.Tryz
attribute [local go_sem ↓] Go.wp_at_zero Go.wp_at_succ
set_option linter.unusedVariables false
set_option maxRecDepth 100000
set_option maxHeartbeats 25600000
section
theorem ku{P:Prop}(h:P:=by
 rw [c] at ht ⊢;dsimp only at ht ⊢;have o:=Qe<|B2.u.set (.slice ao Z cap) (i:Nat) 2
 refine fU ?_;intro BW L z b0 b1 b2 C;refine dA ?_;intro ag G ae;clear C c;go_upto_region 18 with fail;clear b0 b1 b2 ag G ae o B2 R2 L2;generalize ((w2.setCell ⟨w.heap.size,0,none⟩ (.slice ao Z cap)).setCell ⟨w.heap.size,1,none⟩ (.int .i64 (i:Nat))).setCell ⟨w.heap.size,2,none⟩ (.int .i64 2)=W at*;have d:dm (t=((i,2),all)):=by
  show _=_;first|exact ht.symm|(rw [<-ht];rfl)
 clear ht;refine pl ?_;intro K O b l q;clear BW L z;go_loopw [1,10] (fun v kk wr=>v=.slice aa all.length ca/\kk=.int .i64 0/\wr=W) (fun _ _ _=>0)
 case atStart=>exact ⟨rfl,rfl,rfl⟩
 case round=>
  obtain ⟨rfl,rfl,rfl⟩:=hrel;obtain ⟨r0,r1,r2,rf⟩:=q.u;refine dY ?_;intro aE aC aD;obtain ⟨b0,b1,b2,C⟩:=l.u;clear C rf;have P:=Qe<|q.u.set (.slice ao Z cap) (i:Nat) 2
  refine ig ?_;intro N;have X:=Qe<|K.u.grown P.u.2 (fun g e he=>ij)
  go_wp2_with fail;obtain ⟨⟨y0,F,y2,_⟩,_⟩:=P.u;rw [d.u];exact bodyPost_ret (v:=.tuple #[.agg #[.slice ao Z cap,.int .i64 (i:Nat),.int .i64 2],.slice aa all.length ca]) ik rfl ⟨aa,ca,rfl,X.u,N.u,fun g e=>orR (b.u g e) (fun h=>dk)⟩):P:=h
section
variable {P : Program} (w : World)
theorem Vt{ops:Array Oper}{rest:List Oper}{o:Oper}{a:Act}{Q:Exit->Act->World->Prop}(hgd:o.guard=none)(s x:Operand)(t:TypeId)(ho:o.op=.call {callee:=.builtin .append,args:=#[s,x],argTypes:=#[t,t]})(base:Nat)(e:TypeId)(i:TypeInfo)(z:Value)(size bytes:Nat)(ht:P.underlying t=some (.slice e))(hi:P.info? e=some i)(hz:i.zero=some z)(hsize:i.size=size)(hby:i.bytes=bytes)(hzs:z.cells.size=size)(hsz:0<size)(v:Value)(n:Nat)(xs:List Value)(hs:a.eval s=v)(hown:w.ownsRow base e size v n xs)(ad:Addr)(m c:Nat)(news:List Value)(hx:a.eval x=.slice (some ad) m c)(hl:news.length=m*size)(hnews:∀j u,news[j]?=some u->w.cell? (ad.add j)=some u)(h1:∀u∈news,u.oneCell'=true)(h63:n+m<=maxLen)(hbytes:(n+m)*bytes<=140737488355328)(hbase:base<=w.heap.size)(h:∀v' w',w'.ownsRow base e size v' (n+m) (xs++news)->w.grownBy w' v.ownBlock->(v'.ownBlock=v.ownBlock\/v'.ownBlock=some w.heap.size)->wpList P ops Q rest (a.put o.dst v') w'):wpList P ops Q (o::rest) a w:=by
 refine wpList_plain hgd fun K hK=>?_
 obtain ⟨v',w',y,h2,h3,_,U⟩:=run_append_own_at (P:=P) w base t o.type e i z size bytes ht hi hz hsize hby hzs hsz v n xs hown ad m c news hl hnews h1 h63 hbytes hbase;unfold Oper.wp execOp;simp only [ho,resolve,invoke,builtin,Sem.run_bind,Sem.run_pure,Result.andThen_ok,List.map_toArray,List.map_cons,List.map_nil,hs,hx,y];exact hK _ _ (h v' w' h2 h3 U)
end
theorem Qp{a b c:World}{r r':Option Nat}(h:a.grownBy b r)(k:b.grownBy c r')(hr:∀g,r'=some g->r=some g\/a.heap.size<=g):a.grownBy c r:=oC
theorem orR{a b c:Prop}(h:a\/b)(f:b->c):a\/c:=by
 rcases h with h|h
 ·exact .inl h
 ·exact .inr (f h)
theorem QR.lies{B:Nat}{w:World}{ao:Option Addr}{cap:Nat}{zs:List Int}(h:QR B w ao cap zs):∀g,Qt ao=some g->g<w.heap.size:=by
 intro g e;rcases h.2 with ⟨J,_⟩|⟨g',K,M,J,h2,h3,_⟩
 ·exact km
 ·simp only [Value.slice.injEq] at J
  rw [J.1] at e;simp [Qt] at e;subst e;exact (Array.getElem?_eq_some_iff.1 h3).1
theorem Qie(w:World):Calls prog 119 #[] w fun e w'=>∃g,e=.returned (.slice (some ⟨g,0,none⟩) 19 19)/\(∀k,k<19->w'.cell? ⟨g,k,none⟩=some (.int .i64 (ord19 k:Nat)))/\g=w.heap.size/\Below w.heap.size w w':=by
 go_enter func119,ntmps119;go_wp2_with fail;go_ret;refine ⟨_,rfl,?_,rfl,(Below.refl _ _).alloc (Nat.le_refl _) _⟩;intro k hk;refine nN ?_;intro h3;rcases h3 with rfl|rfl|rfl|rfl|rfl|rfl|rfl|rfl|rfl|rfl|rfl|rfl|rfl|rfl|rfl|rfl|rfl|rfl|rfl<;>simp [go_sem,ord19]
theorem Qd4(ao:Option Addr)(cap:Nat)(zs:List Int)(a b c:Int)(w:World)(hr:Qv w ao zs)(hl:zs.length<=1048576):
  Calls prog 122 #[.slice ao zs.length cap,.int .i64 a,.int .i64 b,.int .i64 c] w fun e w'=>e=.returned (.bool (decide (hk zs=a\/hk zs=b\/hk zs=c)))/\Below w.heap.size w w':=by
 have HK:=Qe<|QdZ ao cap zs w hr hl
 obtain ⟨r,d⟩:∃r:Bool,decide (hk zs=a\/hk zs=b\/hk zs=c)=r:=⟨_,rfl⟩;rw [d];have HR:=Qe d;generalize hk zs=k at*;clear hr d;by_cases J:k=a
 ·have b1:(k == a)=true:=by simp [J]
  have HX:dm (true=r):=by show _=_;rw [<-HR.u];simp [J]
  clear J HR;exact pj
 ·have b1:(k == a)=false:=by simp [J]
  by_cases h2:k=b
  ·have b2:(k == b)=true:=by simp [h2]
   have HX:dm (true=r):=by show _=_;rw [<-HR.u];simp [h2]
   clear J h2 HR;exact pj
  ·have b2:(k == b)=false:=by simp [h2]
   have HX:dm ((k == c)=r):=by show _=_;rw [<-HR.u];by_cases h3:k=c<;>simp [J,h2,h3]
   clear J h2 HR;generalize B:(k == c)=Z at*;go_enter func122,ntmps122;go_wp2_with fail;refine Calls.mono HK.u ?_;rintro e w1 ⟨rfl,q,rfl⟩;go_wp2_with fail;go_ret;exact ⟨QaF (by rw [<-HX.u]),Qo _ _ _⟩
def QeC(zs:List Int)(ao:Option Addr)(cap:Nat)(aa:Option Addr)(B:Nat)(t:RR×List Int)(e:Ending)(w w':World):Prop:=
 ∃ao' ca',e=.returned (.tuple #[.agg #[.slice ao zs.length cap,.int .i64 (t.1.1:Nat),.int .i64 t.1.2],.slice ao' t.2.length ca'])/\QR B w' ao' ca' t.2/\w.grownBy w' (Qt aa)/\∀g,Qt ao'=some g->Qt aa=some g\/w.heap.size<=g
theorem Qhr(ao:Option Addr)(cap:Nat)(zs:List Int)(i:Nat)(aa:Option Addr)(ca:Nat)(all:List Int)(x B:Nat)(w:World)(hr:Q1 w ao zs)(hz:Qh zs)(hzl:zs.length<=65536)(hi:i<=8*zs.length)(ho:QR B w aa ca all)(hB:B<=w.heap.size)(hx:x<19)(hal:all.length<=1000):
  Calls prog 121 #[.agg #[.slice ao zs.length cap,.int .i64 (i:Nat),.int .i64 0],.slice aa all.length ca,.int .i64 (x:Nat)] w fun e w'=>QeC zs ao cap aa B (rpt zs (i,0) all x) e w w':=by
 obtain ⟨i0,aU,af,ak,aq⟩:=info_parts Tryz.info_i64d;have aw:dm (∀W n cl,Below w.heap.size w W->n<=32->Calls prog 48 #[.agg #[.slice ao zs.length cap,.int .i64 (i:Nat),.int .i64 cl],.int .i64 (n:Nat)] W fun e w'=>e=.returned (.tuple #[.agg #[.slice ao zs.length cap,.int .i64 ((tk zs (i,cl) n).1.1:Nat),.int .i64 (tk zs (i,cl) n).1.2],.int .i64 ((tk zs (i,cl) n).2:Nat)])/\Below W.heap.size W w'):=fun W n cl hW M=>VN ao cap zs i n cl W (hr.below hW) hz hzl hi M
 have HZ:dm (∀n cl,n<=7->(tk zs (i,cl) n).2<=127):=by
  intro n cl M;unfold tk;dsimp only;split
  ·split
   ·have:=VM (bnum zs) i n M
    dsimp only;omega
   ·exact Nat.zero_le _
  ·exact Nat.zero_le _
 have HO:=Qe ho;have a:=Qe ho.lies;clear hr hz ho;obtain ⟨t,ht⟩:=dt (rpt zs (i,0) all x);rw [ht];unfold rpt at ht;unfold QeC;generalize hZ:zs.length=Z at*;have av:=Qe hZ;clear hZ;have B1:dm (L5m ((w.alloc (.cells #[.slice ao Z cap,.int .i64 (i:Nat),.int .i64 0] 85)).alloc (.cells #[.slice none 0 0,.int .i64 0,.int .i64 0] 85)) w.heap.size (.slice ao Z cap) (i:Nat) 0):=(VI w (.slice ao Z cap) (i:Nat) 0 85).below ((Below.refl _ _).alloc (Nat.le_refl _) _);have R1:dm (L5m ((w.alloc (.cells #[.slice ao Z cap,.int .i64 (i:Nat),.int .i64 0] 85)).alloc (.cells #[.slice none 0 0,.int .i64 0,.int .i64 0] 85)) (w.heap.size+1) (.slice none 0 0) 0 0):=jM;have L1:dm (Below w.heap.size w ((w.alloc (.cells #[.slice ao Z cap,.int .i64 (i:Nat),.int .i64 0] 85)).alloc (.cells #[.slice none 0 0,.int .i64 0,.int .i64 0] 85))):=((Below.refl _ _).alloc (Nat.le_refl _) _).alloc dr _;go_enter func121,ntmps121;by_cases T:x=16
 ·have D:((x:Int) == 16)=true:=du
  have ay:((x:Int) == 17)=false:=du;have ar:((x:Int) == 18)=false:=du;rw [if_pos T] at ht;clear T hx;by_cases H:all.length=0
  ·have al:((all.length:Int) == 0)=true:=by simp [H]
   rw [show decide (all.length=0)=true from decide_eq_true H,show VJ (i,0) true=(i,3) from rfl,QaD (show (3:Int)≠0 by decide)] at ht;dsimp only at ht;clear H;go_wp2_with fail;refine Calls.mono (Q0 ao Z cap i 0 true _) ?_;rintro e w1 ⟨rfl,aj⟩;rw [show VJ (i,0) true=(i,3) from rfl];dsimp only;have B0:=Qe<|B1.u.below aj
   have R0:=Qe<|R1.u.below aj
   have E:=Qe<|L1.u.trans (aj.mono L1.u.size)
   clear aj B1 R1 L1;have E0:=Qe<|B0.u.set (.slice ao Z cap) (i:Nat) 3
   have B1:=Qe E0.u.1;have R1:=Qe<|R0.u.grown E0.u.2 dr
   have L1:=Qe<|E.u.grown E0.u.2 (by have:=B0.u.lt;omega) dz
   obtain ⟨b0,b1,b2,C⟩:=B0.u;refine dA ?_;intro ag G ae;clear C;go_upto_region 5 with fail;clear b0 b1 b2 ag G ae E0 B0 R0 E;generalize ((w1.setCell ⟨w.heap.size,0,none⟩ (.slice ao Z cap)).setCell ⟨w.heap.size,1,none⟩ (.int .i64 (i:Nat))).setCell ⟨w.heap.size,2,none⟩ (.int .i64 3)=W1 at*;obtain ⟨b0,b1,b2,C⟩:=B1.u;clear C;go_wp2_with fail;refine Calls.mono (aw.u _ 2 3 L1.u dn) ?_;rintro e w2 ⟨rfl,ah⟩;rw [QaD (show (i,(3:Int)).2≠0 by show (3:Int)≠0;decide)];dsimp only;have B2:=Qe<|B1.u.below ah
   have R2:=Qe<|R1.u.below ah
   have L2:=Qe<|L1.u.trans (ah.mono L1.u.size)
   clear ah B1 R1 L1 b0 b1 b2;have o:=Qe<|B2.u.set (.slice ao Z cap) (i:Nat) 3
   refine fU ?_;intro BW L z b0 b1 b2 C;refine dA ?_;intro ag G ae;clear C;go_upto_region 18 with fail;clear b0 b1 b2 ag G ae o B2 R2 L2;generalize ((w2.setCell ⟨w.heap.size,0,none⟩ (.slice ao Z cap)).setCell ⟨w.heap.size,1,none⟩ (.int .i64 (i:Nat))).setCell ⟨w.heap.size,2,none⟩ (.int .i64 3)=W at*;have d:dm (t=((i,3),all)):=fV;clear ht;refine pl ?_;intro K O b l q;clear BW L z;go_loopw [1,10] (fun v kk wr=>v=.slice aa all.length ca/\kk=.int .i64 0/\wr=W) (fun _ _ _=>0)
   case atStart=>exact ⟨rfl,rfl,rfl⟩
   case round=>
    obtain ⟨rfl,rfl,rfl⟩:=hrel;obtain ⟨r0,r1,r2,rf⟩:=q.u;refine dY ?_;intro aE aC aD;obtain ⟨b0,b1,b2,C⟩:=l.u;clear C rf;have P:=Qe<|q.u.set (.slice ao Z cap) (i:Nat) 3
    refine ig ?_;intro N;have X:=Qe<|K.u.grown P.u.2 (fun g e he=>ij)
    go_wp2_with fail;obtain ⟨⟨y0,F,y2,_⟩,_⟩:=P.u;rw [d.u];exact bodyPost_ret (v:=.tuple #[.agg #[.slice ao Z cap,.int .i64 (i:Nat),.int .i64 3],.slice aa all.length ca]) ik rfl ⟨aa,ca,rfl,X.u,N.u,fun g e=>orR (b.u g e) (fun h=>dk)⟩
  ·have al:((all.length:Int) == 0)=false:=by simp [H]
   rw [show decide (all.length=0)=false from decide_eq_false H,show VJ (i,0) false=(i,0) from rfl] at ht;have J:0<all.length:=dk;obtain ⟨ga,a3,aF,ad,aT⟩:=HO.u.at J;obtain ⟨Y,V⟩:∃Y:Int,all.getD (all.length-1) 0=Y:=⟨_,rfl⟩;have aR:w.cell? ⟨ga,all.length-1,none⟩=some (.int .i64 Y):=by
    rw [<-V];have f:=HO.u;rw [a3] at f;exact f.cell dk
   rw [V] at ht;obtain ⟨k,hk⟩:∃k:Nat,all.length-1=k:=⟨_,rfl⟩;rw [hk] at aR;have a7:((all.length:Int)-1)=(k:Int):=dk;have ax:k<all.length:=dk;have aA:=Qe a3;have a9:=Qe (fun W (hW:Below w.heap.size w W)=>(hW.cell (p:=⟨ga,k,none⟩) ad).trans aR);clear V hk H a3 aR;go_wp2_with fail;refine Calls.mono (Q0 ao Z cap i 0 false _) ?_;rintro e w1 ⟨rfl,aj⟩;rw [show VJ (i,0) false=(i,0) from rfl];dsimp only;have B0:=Qe<|B1.u.below aj
   have R0:=Qe<|R1.u.below aj
   have E:=Qe<|L1.u.trans (aj.mono L1.u.size)
   clear aj B1 R1 L1;have E0:=Qe<|B0.u.set (.slice ao Z cap) (i:Nat) 0
   have B1:=Qe E0.u.1;have R1:=Qe<|R0.u.grown E0.u.2 dr
   have L1:=Qe<|E.u.grown E0.u.2 (by have:=B0.u.lt;omega) dz
   obtain ⟨b0,b1,b2,C⟩:=B0.u;refine dA ?_;intro ag G ae;clear C;go_upto_region 5 with fail;clear b0 b1 b2 ag G ae E0 B0 R0 E;generalize ((w1.setCell ⟨w.heap.size,0,none⟩ (.slice ao Z cap)).setCell ⟨w.heap.size,1,none⟩ (.int .i64 (i:Nat))).setCell ⟨w.heap.size,2,none⟩ (.int .i64 0)=W1 at*;obtain ⟨b0,b1,b2,C⟩:=B1.u;clear C;go_wp2_with fail;refine Calls.mono (aw.u _ 2 0 L1.u dn) ?_;rintro e w2 ⟨rfl,ah⟩;refine kn ?_;intro B2 R2 L2;clear ah B1 R1 L1;by_cases hb:i+2<=8*Z
   ·obtain ⟨I,hI⟩:∃I:Nat,i+2=I:=⟨_,rfl⟩
    have c:tk zs (i,0) 2=((I,0),field (bnum zs) i 2):=ko;clear hI;have hτ:=HZ.u 2 0 dn;rw [c] at ht hτ ⊢;dsimp only at ht hτ ⊢;generalize field (bnum zs) i 2=τ at*;have o:=Qe<|B2.u.set (.slice ao Z cap) (I:Nat) 0
    refine fU ?_;intro BW L z b0 b1 b2 C;refine dA ?_;intro ag G ae;clear C c;have aR:=a9.u w2 L2.u;have a3:=aA.u;subst a3;go_upto_region 18 with fail;clear b0 b1 b2 ag G ae o B2 R2 L2;generalize ((w2.setCell ⟨w.heap.size,0,none⟩ (.slice ao Z cap)).setCell ⟨w.heap.size,1,none⟩ (.int .i64 (I:Nat))).setCell ⟨w.heap.size,2,none⟩ (.int .i64 0)=W at*;have d:dm (t=((I,0),all++List.replicate (τ+3) Y)):=fV;clear ht;have S:=Qe<|HO.u.below z.u
    go_loopw [1,10] (fun v kk wr=>∃(j:Nat) (a1:Option Addr) (c1:Nat),j<=(τ+3)/\kk=.int .i64 (j:Nat)/\v=.slice a1 (all++List.replicate j Y).length c1/\dm (QR B wr a1 c1 (all++List.replicate j Y))/\dm (L5m wr w.heap.size (.slice ao Z cap) (I:Nat) 0)/\dm (L5m wr (w.heap.size+1) (.slice none 0 0) 0 0)/\dm (w.grownBy wr (Qt (some ⟨ga,0,none⟩)))/\dm (∀g,Qt a1=some g->Qt (some ⟨ga,0,none⟩)=some g\/w.heap.size+2<=g)) (fun _ kk _=>(τ+3)-(intOf kk).toNat)
    case atStart=>exact ⟨0,(some ⟨ga,0,none⟩),ca,Nat.zero_le _,rfl,dr,il,BW,L,Qk z.u _,fun g e=>.inl e⟩
    case round=>
     clear BW L z S;obtain ⟨j,a1,c1,hj,rfl,rfl,K,l,q,O,b⟩:=hrel;have ai:(all++List.replicate j Y).length=all.length+j:=dr;by_cases ab:j<(τ+3)
     ·have a6:((j:Int)<((τ:Int)+3)):=dk
      have a8:dm (all++List.replicate (j+1) Y=(all++List.replicate j Y)++[Y]):=kp;generalize all++List.replicate j Y=U at*;refine kq ?_;intro an;have HN:=Qe<|Qdz wr (.int .i64 Y) 2
      have a0:=q.u.lt;obtain ⟨b0,b1,b2,C⟩:=l.u;clear C;go_wp2_with (at_builtin;refine Vt _ rfl _ _ 70 rfl B 2 i0 (.int .i64 0) 1 8 underlying70 aU af ak aq rfl dn (.slice a1 U.length c1) U.length (U.map (Value.int .i64)) rfl (an.u _ _) ⟨wr.heap.size,0,none⟩ 1 1 [.int .i64 Y] rfl rfl HN.u eB dy dk du ?_)
      intro v4 w4 R Q s;rw [show U.map (Value.int .i64)++[Value.int .i64 Y]=(U++[Y]).map (Value.int .i64) from dr] at R;obtain ⟨a4,c4,rfl,a2⟩:=QR.of R;rw [VK] at Q;rw [VK,VK] at s;have m:some w.heap.size≠Qt a1:=pn;have au:some (w.heap.size+1)≠Qt a1:=pn;refine po ?_;intro y R4 G4;have K4:dm (∀g,Qt a4=some g->Qt (some ⟨ga,0,none⟩)=some g\/w.heap.size+2<=g):=pt;exact pv
     ·have a6:¬((j:Int)<((τ:Int)+3)):=dk
      have r:j=(τ+3):=dk;rw [r] at K ⊢;clear ab ai;generalize hU:all++List.replicate ((τ+3)) Y=U at*;exact ks
   ·have c:tk zs (i,0) 2=((i,2),0):=kt
    exact ku
 ·by_cases az:x=17
  ·have D:((x:Int) == 16)=false:=du
   have ay:((x:Int) == 17)=true:=du;have ar:((x:Int) == 18)=false:=du;rw [if_neg T,if_pos az] at ht;clear T az hx;go_wp2_with fail;refine Calls.mono (aw.u _ 3 0 L1.u dn) ?_;rintro e w2 ⟨rfl,ah⟩;refine kn ?_;intro B2 R2 L2;clear ah B1 R1 L1;by_cases hb:i+3<=8*Z
   ·obtain ⟨I,hI⟩:∃I:Nat,i+3=I:=⟨_,rfl⟩
    have c:tk zs (i,0) 3=((I,0),field (bnum zs) i 3):=ko;clear hI;have hτ:=HZ.u 3 0 dn;rw [c] at ht hτ ⊢;dsimp only at ht hτ ⊢;generalize field (bnum zs) i 3=τ at*;have o:=Qe<|B2.u.set (.slice ao Z cap) (I:Nat) 0
    refine fU ?_;intro BW L z b0 b1 b2 C;refine dA ?_;intro ag G ae;clear C c;go_upto_region 18 with fail;clear b0 b1 b2 ag G ae o B2 R2 L2;generalize ((w2.setCell ⟨w.heap.size,0,none⟩ (.slice ao Z cap)).setCell ⟨w.heap.size,1,none⟩ (.int .i64 (I:Nat))).setCell ⟨w.heap.size,2,none⟩ (.int .i64 0)=W at*;have d:dm (t=((I,0),all++List.replicate (τ+3) 0)):=fV;clear ht;have S:=Qe<|HO.u.below z.u
    go_loopw [1,10] (fun v kk wr=>∃(j:Nat) (a1:Option Addr) (c1:Nat),j<=(τ+3)/\kk=.int .i64 (j:Nat)/\v=.slice a1 (all++List.replicate j 0).length c1/\dm (QR B wr a1 c1 (all++List.replicate j 0))/\dm (L5m wr w.heap.size (.slice ao Z cap) (I:Nat) 0)/\dm (L5m wr (w.heap.size+1) (.slice none 0 0) 0 0)/\dm (w.grownBy wr (Qt aa))/\dm (∀g,Qt a1=some g->Qt aa=some g\/w.heap.size+2<=g)) (fun _ kk _=>(τ+3)-(intOf kk).toNat)
    case atStart=>exact ⟨0,aa,ca,Nat.zero_le _,rfl,dr,il,BW,L,Qk z.u _,fun g e=>.inl e⟩
    case round=>
     clear BW L z S;obtain ⟨j,a1,c1,hj,rfl,rfl,K,l,q,O,b⟩:=hrel;have ai:(all++List.replicate j 0).length=all.length+j:=dr;by_cases ab:j<(τ+3)
     ·have a6:((j:Int)<((τ:Int)+3)):=dk
      exact px
     ·have a6:¬((j:Int)<((τ:Int)+3)):=dk
      have r:j=(τ+3):=dk;rw [r] at K ⊢;clear ab ai;generalize hU:all++List.replicate ((τ+3)) 0=U at*;exact ks
   ·have c:tk zs (i,0) 3=((i,2),0):=kt
    exact ku
  ·by_cases a5:x=18
   ·have D:((x:Int) == 16)=false:=du
    have ay:((x:Int) == 17)=false:=du;have ar:((x:Int) == 18)=true:=du;rw [if_neg T,if_neg az,if_pos a5] at ht;clear T az a5 hx;go_wp2_with fail;refine Calls.mono (aw.u _ 7 0 L1.u dn) ?_;rintro e w2 ⟨rfl,ah⟩;refine kn ?_;intro B2 R2 L2;clear ah B1 R1 L1;by_cases hb:i+7<=8*Z
    ·obtain ⟨I,hI⟩:∃I:Nat,i+7=I:=⟨_,rfl⟩
     have c:tk zs (i,0) 7=((I,0),field (bnum zs) i 7):=ko;clear hI;have hτ:=HZ.u 7 0 dn;rw [c] at ht hτ ⊢;dsimp only at ht hτ ⊢;generalize field (bnum zs) i 7=τ at*;have o:=Qe<|B2.u.set (.slice ao Z cap) (I:Nat) 0
     refine fU ?_;intro BW L z b0 b1 b2 C;refine dA ?_;intro ag G ae;clear C c;go_upto_region 18 with fail;clear b0 b1 b2 ag G ae o B2 R2 L2;generalize ((w2.setCell ⟨w.heap.size,0,none⟩ (.slice ao Z cap)).setCell ⟨w.heap.size,1,none⟩ (.int .i64 (I:Nat))).setCell ⟨w.heap.size,2,none⟩ (.int .i64 0)=W at*;have d:dm (t=((I,0),all++List.replicate (τ+11) 0)):=fV;clear ht;have S:=Qe<|HO.u.below z.u
     go_loopw [1,10] (fun v kk wr=>∃(j:Nat) (a1:Option Addr) (c1:Nat),j<=(τ+11)/\kk=.int .i64 (j:Nat)/\v=.slice a1 (all++List.replicate j 0).length c1/\dm (QR B wr a1 c1 (all++List.replicate j 0))/\dm (L5m wr w.heap.size (.slice ao Z cap) (I:Nat) 0)/\dm (L5m wr (w.heap.size+1) (.slice none 0 0) 0 0)/\dm (w.grownBy wr (Qt aa))/\dm (∀g,Qt a1=some g->Qt aa=some g\/w.heap.size+2<=g)) (fun _ kk _=>(τ+11)-(intOf kk).toNat)
     case atStart=>exact ⟨0,aa,ca,Nat.zero_le _,rfl,dr,il,BW,L,Qk z.u _,fun g e=>.inl e⟩
     case round=>
      clear BW L z S;obtain ⟨j,a1,c1,hj,rfl,rfl,K,l,q,O,b⟩:=hrel;have ai:(all++List.replicate j 0).length=all.length+j:=dr;by_cases ab:j<(τ+11)
      ·have a6:((j:Int)<((τ:Int)+11)):=dk
       exact px
      ·have a6:¬((j:Int)<((τ:Int)+11)):=dk
       have r:j=(τ+11):=dk;rw [r] at K ⊢;clear ab ai;generalize hU:all++List.replicate ((τ+11)) 0=U at*;exact ks
    ·have c:tk zs (i,0) 7=((i,2),0):=kt
     exact ku
   ·have D:((x:Int) == 16)=false:=du
    have ay:((x:Int) == 17)=false:=du;have ar:((x:Int) == 18)=false:=du;rw [if_neg T,if_neg az,if_neg a5] at ht;clear T az a5 hx;go_upto_region 18 with fail;rw [show ups (i,0) all (x:Nat) 1=all++List.replicate 1 ((x:Nat):Int) from rfl] at ht;have BW:=B1;have L:=R1;have z:=L1;clear B1 R1 L1;generalize (w.alloc (.cells #[.slice ao Z cap,.int .i64 (i:Nat),.int .i64 0] 85)).alloc (.cells #[.slice none 0 0,.int .i64 0,.int .i64 0] 85)=W at*;have d:dm (t=((i,0),all++List.replicate 1 ((x:Nat):Int))):=fV;clear ht;have S:=Qe<|HO.u.below z.u
    go_loopw [1,10] (fun v kk wr=>∃(j:Nat) (a1:Option Addr) (c1:Nat),j<=1/\kk=.int .i64 (j:Nat)/\v=.slice a1 (all++List.replicate j ((x:Nat):Int)).length c1/\dm (QR B wr a1 c1 (all++List.replicate j ((x:Nat):Int)))/\dm (L5m wr w.heap.size (.slice ao Z cap) (i:Nat) 0)/\dm (L5m wr (w.heap.size+1) (.slice none 0 0) 0 0)/\dm (w.grownBy wr (Qt aa))/\dm (∀g,Qt a1=some g->Qt aa=some g\/w.heap.size+2<=g)) (fun _ kk _=>1-(intOf kk).toNat)
    case atStart=>exact ⟨0,aa,ca,Nat.zero_le _,rfl,dr,il,BW,L,Qk z.u _,fun g e=>.inl e⟩
    case round=>
     clear BW L z S;obtain ⟨j,a1,c1,hj,rfl,rfl,K,l,q,O,b⟩:=hrel;have ai:(all++List.replicate j ((x:Nat):Int)).length=all.length+j:=dr;by_cases ab:j<1
     ·have a6:((j:Int)<(1:Int)):=dk
      have a8:dm (all++List.replicate (j+1) ((x:Nat):Int)=(all++List.replicate j ((x:Nat):Int))++[((x:Nat):Int)]):=kp;generalize all++List.replicate j ((x:Nat):Int)=U at*;refine kq ?_;intro an;have HN:=Qe<|Qdz wr (.int .i64 ((x:Nat):Int)) 2
      have a0:=q.u.lt;obtain ⟨b0,b1,b2,C⟩:=l.u;clear C;go_wp2_with (at_builtin;refine Vt _ rfl _ _ 70 rfl B 2 i0 (.int .i64 0) 1 8 underlying70 aU af ak aq rfl dn (.slice a1 U.length c1) U.length (U.map (Value.int .i64)) rfl (an.u _ _) ⟨wr.heap.size,0,none⟩ 1 1 [.int .i64 ((x:Nat):Int)] rfl rfl HN.u eB dy dk du ?_)
      intro v4 w4 R Q s;rw [show U.map (Value.int .i64)++[Value.int .i64 ((x:Nat):Int)]=(U++[((x:Nat):Int)]).map (Value.int .i64) from dr] at R;exact py
     ·have a6:¬((j:Int)<(1:Int)):=dk
      have r:j=1:=dk;rw [r] at K ⊢;clear ab ai;generalize hU:all++List.replicate (1) ((x:Nat):Int)=U at*;clear hU r;obtain ⟨r0,r1,r2,rf⟩:=q.u;refine dY ?_;intro aE aC aD;obtain ⟨b0,b1,b2,C⟩:=l.u;clear C rf;have P:=Qe<|q.u.set (.slice ao Z cap) (i:Nat) 0
      refine ig ?_;intro N;have X:=Qe<|K.u.grown P.u.2 (fun g e he=>ij)
      go_wp2_with fail;obtain ⟨⟨y0,F,y2,_⟩,_⟩:=P.u;rw [d.u];exact bodyPost_ret (v:=.tuple #[.agg #[.slice ao Z cap,.int .i64 (i:Nat),.int .i64 0],.slice a1 U.length c1]) ik rfl ⟨a1,c1,rfl,X.u,N.u,fun g e=>orR (b.u g e) (fun h=>dk)⟩
end
theorem Qi.based{e B:Nat}{w:World}{ao:Option Addr}{cap:Nat}{zs:List Int}(h:Qi e B w ao cap zs):∀g,Qt ao=some g->B<=g:=oi
theorem Qol(w:World)(g:Nat)(v0 v1 x0 x1:Value)(h0:w.cell? ⟨g,0,none⟩=some v0)(h1:w.cell? ⟨g,1,none⟩=some v1):
  ((w.setCell ⟨g,0,none⟩ x0).setCell ⟨g,1,none⟩ x1).cell? ⟨g,0,none⟩=some x0/\((w.setCell ⟨g,0,none⟩ x0).setCell ⟨g,1,none⟩ x1).cell? ⟨g,1,none⟩=some x1/\w.grownBy ((w.setCell ⟨g,0,none⟩ x0).setCell ⟨g,1,none⟩ x1) (some g):=by
 have M:∀(W:World) (x:Value) (i j:Nat),i≠j->(W.setCell ⟨g,i,none⟩ x).cell? ⟨g,j,none⟩=W.cell? ⟨g,j,none⟩:=fun W x i j hij=>World.cell?_setCell_other _ _ _ _ dB
 refine ⟨?_,?_,Qj (Qf w ⟨g,0,none⟩ x0) (Qf _ ⟨g,1,none⟩ x1)⟩
 ·rw [M _ _ 1 0 dn,World.cell?_setCell_same _ _ _ h0]
 ·exact World.cell?_setCell_same _ _ _ ((M _ _ 0 1 dn).trans h1)
theorem Qfs(w:World):
  Calls prog 104 #[] w fun e w'=>∃p ao cap,e=.returned (.agg #[.pointer (some ⟨p,0,none⟩),.nilFunc])/\Src w' p (.slice ao 0 cap) 0 0/\Qi 5 w.heap.size w' ao cap []/\w.heap.size<p/\p<w'.heap.size/\Qt ao≠some p/\Below w.heap.size w w':=by
 have B0:dm (Below w.heap.size w (w.alloc (.cells #[.pointer none,.nilFunc] 67))):=(Below.refl _ _).alloc (Nat.le_refl _) _;have HS:=Qe<|Qe7 none 0 [] 0 0 (w.alloc (.cells #[.pointer none,.nilFunc] 67)) (Q1.nil _ _) (fun _=>rfl) dr
 go_enter func104,ntmps104;go_wp2_with fail;refine Calls.mono HS.u ?_;rintro e w1 ⟨p,ao,cap,rfl,E,ho,N,au,an,hb⟩;have r:(w.alloc (.cells #[.pointer none,.nilFunc] 67)).heap.size=w.heap.size+1:=dr;rw [r] at ho N hb;have C:w1.cell? ⟨w.heap.size,0,none⟩=some (.pointer none):=by rw [hb.cell (p:=⟨w.heap.size,0,none⟩) dr];simp [go_sem]
 have c1:w1.cell? ⟨w.heap.size,1,none⟩=some .nilFunc:=by rw [hb.cell (p:=⟨w.heap.size,1,none⟩) dr];simp [go_sem]
 have f0:w1.frozen? ⟨w.heap.size,0,none⟩=false:=by rw [hb.frozen (p:=⟨w.heap.size,0,none⟩) dr];simp [go_sem]
 have f1:w1.frozen? ⟨w.heap.size,1,none⟩=false:=by rw [hb.frozen (p:=⟨w.heap.size,1,none⟩) dr];simp [go_sem]
 obtain ⟨y0,F,O⟩:=Qol w1 w.heap.size _ _ (.pointer (some ⟨p,0,none⟩)) .nilFunc C c1;have ak:w.heap.size<w1.heap.size:=eT;have d:=QfQ (w1.setCell ⟨w.heap.size,0,none⟩ (.pointer (some ⟨p,0,none⟩))) ⟨w.heap.size,1,none⟩ .nilFunc ((World.cell?_setCell_other _ _ _ _ dr).trans c1) (by rw [World.frozen?_setCell];exact f1);have Y:=Qe<|And.intro y0 F
 have S2:=Qe<|E.grown O du
 have O2:=Qe<|Qi.grown (Qi.mono ho (Nat.le_succ _)) O (fun k e hk=>by have:=Qi.based ho k hk;simp at e;omega)
 have B2:=Qe<|(B0.u.trans (hb.mono dk)).grown O dk (fun k e=>dJ)
 have Z2:dm (p<((w1.setCell ⟨w.heap.size,0,none⟩ (.pointer (some ⟨p,0,none⟩))).setCell ⟨w.heap.size,1,none⟩ .nilFunc).heap.size):=Nat.lt_of_lt_of_le au O.size;have HP:=Qe<|And.intro N an
 clear E ho N an hb O y0 F B0 HS r au;go_wp2_with fail;exact bodyPost_ret (v:=.agg #[.pointer (some ⟨p,0,none⟩),.nilFunc]) (by simp [results,results104,go_sem,Y.u.1,Y.u.2]) rfl ⟨p,ao,cap,rfl,S2.u,O2.u,by have:=HP.u.1;omega,Z2.u,HP.u.2,B2.u⟩
theorem QiD(p:Nat)(ao co:Option Addr)(cap cc:Nat)(cs:List Int)(B:Nat)(w:World)(hs:Src w p (.slice ao 0 cap) 0 0)(ho:Qi 5 B w ao cap [])(hB:B<=w.heap.size)(hBp:B<=p)(hpb:Qt ao≠some p)(hr:Q1 w co cs)(hnil:co=none->cs.length=0/\cc=0)(hc:cs.length<=65536):
  Calls prog 35 #[.pointer (some ⟨p,0,none⟩),.slice co cs.length cc] w fun e w'=>e=.returned (.tuple #[])/\(∃ao' cap',Src w' p (.slice ao' cs.length cap') 0 0/\Q1 w' ao' cs/\cs.length<=cap'/\(∀ad,ao'=some ad->(Qt ao=some ad.block\/w.heap.size<=ad.block)/\B<=ad.block/\ad.block<w'.heap.size)/\(ao'=none->cap'=0))/\(∀k,k<w.heap.size->k≠p->Qt ao≠some k->w'.heap[k]?=w.heap[k]?)/\Below B w w':=by
 refine dP ?_;intro i0 hi af ak aq;have HN:dm (co=none->cs.length=0/\cc=0):=hnil;clear hnil;refine fH ?_;intro N;have hd:decide ((cs.length:Int)<=1000000)=true:=decide_eq_true dk;have c:=hs;obtain ⟨C,c1,c2,f0,f1,f2⟩:=c;have HO:=Qe ho;have a:=Qe hpb;go_enter func35,ntmps35;go_wp2_with (at_builtin;refine Qm _ rfl _ _ 22 rfl B 5 i0 (.int .u8 0) 1 underlying22 hi af ak aq rfl (.slice ao 0 cap) 0 [] rfl HO.u co cc cs rfl hr HN.u dy dk hB ?_)
 intro v' w1 R Q aa;obtain ⟨ao',cap',e',al⟩:=Qi.of R;subst e'
 have x:(Value.slice ao' cs.length cap').ownBlock=Qt ao':=by cases ao'<;>rfl
 have H:(Value.slice ao 0 cap).ownBlock=Qt ao:=g8;rw [x,H] at aa;rw [H] at Q;have L:=hs.grown Q (fun e=>hpb e.symm);obtain ⟨k1,k2,k3⟩:=QnY L (.slice ao' cs.length cap');have an:Qt ao'≠some p:=by
  rcases aa with J|J
  ·rw [J];exact hpb
  ·rw [J];simp;omega
 have hm:=al.mine.grown k2 (by intro k e;simp at e;subst e;exact an);have b7:dm (∀ad,ao'=some ad->Qt ao=some ad.block\/w.heap.size<=ad.block):=by
  intro ad e;subst e;rcases aa with J|J
  ·exact .inl J.symm
  ·right;simp [Qt] at J;omega
 have BW:=Qe<|(((Below.refl B w).grown Q hB (fun k e=>Qi.based HO.u k e))).grown k2 (Nat.le_trans hB Q.size) (fun k e=>dJ)
 have HK:dm (∀k,k<w.heap.size->k≠p->Qt ao≠some k->(w1.setCell ⟨p,0,none⟩ (.slice ao' cs.length cap')).heap[k]?=w.heap[k]?):=by
  intro k J h2 h3;rw [k2.block k (Nat.lt_of_lt_of_le J Q.size) (by simp;exact h2),Q.block k J (fun e=>h3 e.symm)]
 have HM:=Qe hm;have K1:=Qe k1;obtain ⟨y0,F,y2,K,e1,e2⟩:=L;clear R Q aa ho al k1 k2 k3 hr hs C c1 c2 f0 f1 f2 hm an hpb;go_wp2_with fail;go_end0;exact ⟨rfl,⟨ao',cap',K1.u,HM.u.row,HM.u.fits,fun ad e=>⟨b7.u ad e,(HM.u.lies ad e).1,(HM.u.lies ad e).2.1⟩,HM.u.bare⟩,HK.u,BW.u⟩
end Go.Proofs.YtgginbpmebgkcaaGreatDoor
