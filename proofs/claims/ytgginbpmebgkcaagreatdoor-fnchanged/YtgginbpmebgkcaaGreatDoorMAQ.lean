import Derived.Deep.RegionLaw
import Derived.Deep.AppendLies
import Derived.Deep.Cut
import Derived.Test.YtgginbpmebgkcaaGreatDoorMAL
import Derived.Test.YtgginbpmebgkcaaGreatDoorMAP
namespace Go.Proofs.YtgginbpmebgkcaaGreatDoor
open Go.RowKit Go.Proofs.Tryz
attribute [local go_sem ↓] Go.wp_at_zero Go.wp_at_succ
set_option linter.unusedVariables false
set_option maxRecDepth 100000
set_option maxHeartbeats 25600000
theorem QH.last{q p hB:Nat}{zs:List Int}{rdy:Value}{w:World}{c:LC}(h:QH q p hB zs rdy w c)(h0:0<c.lens.length):∃g cap,w.cell? ⟨q,26,none⟩=some (.slice (some ⟨g,0,none⟩) c.lens.length cap)/\c.lens.length<=cap/\Qv w (some ⟨g,0,none⟩) c.lens:=by
 obtain ⟨B,v,b1,b2,Z,H,b5,b6,b7,b8⟩:=h.own;have a:=b6;obtain ⟨_,x⟩:=a;rcases x with ⟨e,x⟩|⟨g,cap,M,e,_,_,I,_⟩
 ·omega
 ·subst e
  exact ⟨g,cap,b5,I,Qv.owned b6⟩
def QeU(c:LC):Int:=if c.f 27=16 then c.lens.getD (c.lens.length-1) 0 else 0
def Qej(c:LC):Nat:=if c.f 27=18 then 11 else 3
def QcO(c:LC):Nat:=if c.f 27=16 then 2 else if c.f 27=18 then 7 else 3
def Vs(zs:List Int)(c:LC):LC⊕(Int×LC):=if c.i+QcO c<=8*zs.length then addS {c with i:=c.i+QcO c} (QeU c) (Qej c+field (bnum zs) c.i (QcO c)) else .inr (2,c)
theorem Qm8(q p hB:Nat)(zs:List Int)(rdy:Value)(c:LC)(w:World)(hM:QH q p hB zs rdy w c)(hI:QfY c)(hA:Qjn q p hB zs rdy)(hz:Qh zs)(hzl:zs.length<=65536)(hrep:c.f 27=17)(r:LC⊕(Int×LC))(hr:Vs zs c=r):
  Calls prog 211 #[.pointer (some ⟨q,0,none⟩)] w fun e w'=>Qu q p hB zs rdy r e w w':=by
 have y:=hM.lt;have hX:QcO c=3:=jC;have hT:Qej c=3:=jD;have hV:QeU c=0:=jE;unfold Vs at hr;rw [hX,hT,hV] at hr;have U:=hM.num 27 dE;rw [hrep] at U;have HM:=Qe hM;have P:=Qe hI;have O:=Qe hA;by_cases M:c.i+3<=8*zs.length
 ·rw [if_pos M] at hr
  have HR:=Qe hr;have Y:=VM (bnum zs) c.i 3 dn;have HN:=Qe (fun W (hb:Below w.heap.size w W)=>Q7 q p hB zs c.i 3 W (hM.below hb).c0 (hM.below hb).rd hz hzl dn M);generalize field (bnum zs) c.i 3=F at*;clear hr hM hI hA M hX hT hV hrep;go_enter func211,ntmps211;go_wp2_with fail;have hd:Below w.heap.size w w:=Below.refl _ _;refine Calls.mono (HN.u _ hd) ?_;rintro e w2 ⟨rfl,J,ag⟩;refine gP ?_;intro a u z;have aw:QfY {c with i:=c.i+3}:=⟨P.u.st,P.u.l1,P.u.l2,P.u.d1,P.u.d2,P.u.n⟩;have al:=Qe z;have B:=Qe<|O.u {c with i:=c.i+3} (0) (3+F) w2 u aw dk dk
  rw [show (((3+F:Nat)):Int)=3+(F:Int) from dk] at B;generalize addS {c with i:=c.i+3} (0) (3+F)=r1 at*;exact jF
 ·rw [if_neg M] at hr
  have HR:=Qe hr;have HN:=Qe (fun W (hb:Below w.heap.size w W)=>Vi q p hB zs c.i 3 W (hM.below hb).c0 (hM.below hb).rd hzl dn M);exact nU
theorem QlJ(q p hB:Nat)(zs:List Int)(rdy:Value)(c:LC)(w:World)(hM:QH q p hB zs rdy w c)(hI:QfY c)(hA:Qjn q p hB zs rdy)(hz:Qh zs)(hzl:zs.length<=65536)(hrep:c.f 27=18)(r:LC⊕(Int×LC))(hr:Vs zs c=r):
  Calls prog 211 #[.pointer (some ⟨q,0,none⟩)] w fun e w'=>Qu q p hB zs rdy r e w w':=by
 have y:=hM.lt;have hX:QcO c=7:=jC;have hT:Qej c=11:=jD;have hV:QeU c=0:=jE;unfold Vs at hr;rw [hX,hT,hV] at hr;have U:=hM.num 27 dE;rw [hrep] at U;have HM:=Qe hM;have P:=Qe hI;have O:=Qe hA;by_cases M:c.i+7<=8*zs.length
 ·rw [if_pos M] at hr
  have HR:=Qe hr;have Y:=VM (bnum zs) c.i 7 dn;have HN:=Qe (fun W (hb:Below w.heap.size w W)=>Q7 q p hB zs c.i 7 W (hM.below hb).c0 (hM.below hb).rd hz hzl dn M);generalize field (bnum zs) c.i 7=F at*;clear hr hM hI hA M hX hT hV hrep;go_enter func211,ntmps211;go_wp2_with fail;have hd:Below w.heap.size w w:=Below.refl _ _;refine Calls.mono (HN.u _ hd) ?_;rintro e w2 ⟨rfl,J,ag⟩;refine gP ?_;intro a u z;have aw:QfY {c with i:=c.i+7}:=⟨P.u.st,P.u.l1,P.u.l2,P.u.d1,P.u.d2,P.u.n⟩;have al:=Qe z;have B:=Qe<|O.u {c with i:=c.i+7} (0) (11+F) w2 u aw dk dk
  rw [show (((11+F:Nat)):Int)=11+(F:Int) from dk] at B;generalize addS {c with i:=c.i+7} (0) (11+F)=r1 at*;exact jF
 ·rw [if_neg M] at hr
  have HR:=Qe hr;have HN:=Qe (fun W (hb:Below w.heap.size w W)=>Vi q p hB zs c.i 7 W (hM.below hb).c0 (hM.below hb).rd hzl dn M);exact nU
theorem QlM(q p hB:Nat)(zs:List Int)(rdy:Value)(c:LC)(w:World)(hM:QH q p hB zs rdy w c)(hI:QfY c)(hA:Qjn q p hB zs rdy)(hz:Qh zs)(hzl:zs.length<=65536)(hrep:c.f 27=16)(h0:0<c.lens.length)(r:LC⊕(Int×LC))(hr:Vs zs c=r):
  Calls prog 211 #[.pointer (some ⟨q,0,none⟩)] w fun e w'=>Qu q p hB zs rdy r e w w':=by
 have y:=hM.lt;have hX:QcO c=2:=jC;have hT:Qej c=3:=jD;have hV:QeU c=c.lens.getD (c.lens.length-1) 0:=jE;unfold Vs at hr;rw [hX,hT,hV] at hr;have U:=hM.num 27 dE;rw [hrep] at U;obtain ⟨g,G,T,C,L⟩:=hM.last h0;obtain ⟨bb,k,s,a5⟩:=L (c.lens.length-1) dk;cases s
 have d:c.lens.length<=1000:=by have:=hI.n;have:=hI.l2;have:=hI.d2;omega
 obtain ⟨N,hN⟩:∃N,c.lens.length=N+1:=⟨c.lens.length-1,dk⟩;rw [hN,show 0+(N+1-1)=N from dk] at a5;rw [hN] at T C d;obtain ⟨x,hx⟩:=dt (c.lens.getD (N+1-1) 0);have l:c.lens.getD (c.lens.length-1) 0=x:=by rw [hN];exact hx
 rw [hx] at a5;rw [l] at hr;clear L hx l h0 hN;have HM:=Qe hM;have P:=Qe hI;have O:=Qe hA;by_cases M:c.i+2<=8*zs.length
 ·rw [if_pos M] at hr
  have HR:=Qe hr;have Y:=VM (bnum zs) c.i 2 dn;have HN:=Qe (fun W (hb:Below w.heap.size w W)=>Q7 q p hB zs c.i 2 W (hM.below hb).c0 (hM.below hb).rd hz hzl dn M);generalize field (bnum zs) c.i 2=F at*;clear hr hM hI hA M hX hT hV hrep;go_enter func211,ntmps211;go_upto_region 4 with fail;go_region
  go_wp2_with fail;refine fR ?_;intro hd;refine Calls.mono (HN.u _ hd) ?_;rintro e w2 ⟨rfl,J,ag⟩;refine gP ?_;intro a u z;have aw:QfY {c with i:=c.i+2}:=⟨P.u.st,P.u.l1,P.u.l2,P.u.d1,P.u.d2,P.u.n⟩;have al:=Qe z;have B:=Qe<|O.u {c with i:=c.i+2} x (3+F) w2 u aw dk dk
  rw [show (((3+F:Nat)):Int)=3+(F:Int) from dk] at B;generalize addS {c with i:=c.i+2} x (3+F)=r1 at*;exact jF
 ·rw [if_neg M] at hr
  have HR:=Qe hr;have HN:=Qe (fun W (hb:Below w.heap.size w W)=>Vi q p hB zs c.i 2 W (hM.below hb).c0 (hM.below hb).rd hzl dn M);unfold flt at HN;clear hr hM hI hA M hX hT hV hrep;go_enter func211,ntmps211;go_upto_region 4 with fail;go_region
  go_wp2_with fail;refine fR ?_;intro hd;exact nV
section
variable{w:World}{B g:Nat}{v:Value}{zs:List Int}
theorem Qfj{n:Nat}{xs:List Value}(h:w.ownsRow B 2 1 v n xs):∀k,v.ownBlock=some k->B<=k:=by
 intro k e;rcases h.2 with ⟨rfl,_⟩|⟨g,G,M,rfl,hb,_⟩
 ·cases e
 ·simp [Value.ownBlock] at e
  omega
theorem QH.grow{q p hB:Nat}{rdy:Value}{c:LC}(h:QH q p hB zs rdy w c)(b1:q<B)(b2:p<B)(b3:hB<B)(b4:B<=w.heap.size)(b5:w.cell? ⟨q,26,none⟩=some v)(b6:w.ownsRow B 2 1 v c.lens.length (c.lens.map (Value.int .i64)))(b8:4<=c.st->∃t S m L w0,w.cell? ⟨q,25,none⟩=some (.pointer (some ⟨t,0,none⟩))/\QaG c.tb w0 t S m L/\q<t/\p<t/\w0.heap.size<=B/\∀k,t<=k->k<w0.heap.size->w.heap[k]?=w0.heap[k]?)(hst:4<=c.st){w5 w6:World}(hb:Below w.heap.size w w5){cap' m:Nat}{new:List Int}(hm:new.length=m)(hg:w5.grownBy w6 v.ownBlock)(ho:w6.ownsRow B 2 1 (.slice (some ⟨g,0,none⟩) (c.lens.length+m) cap') (c.lens.length+m) (c.lens.map (Value.int .i64)++new.map (Value.int .i64)))(hat:v.ownBlock=some g\/g=w5.heap.size):
  QH q p hB zs rdy (w6.setCell ⟨q,26,none⟩ (.slice (some ⟨g,0,none⟩) (c.lens.length+m) cap')) {c with lens:=c.lens++new}/\QJ q p w (w6.setCell ⟨q,26,none⟩ (.slice (some ⟨g,0,none⟩) (c.lens.length+m) cap')):=by
 have d:=Qfj b6;have aS:=hb.size;have s:=hg.size;have n:B<=g:=by
  rcases hat with e|e
  ·exact d g e
  ·omega
 have hk:∀k,k<B->w6.heap[k]?=w.heap[k]?:=fun k hk=>(hg.block k dk (fun e=>by have:=d k e.symm;omega)).trans (hb.block k dk)
 obtain ⟨V,hV⟩:=dt (Value.slice (some ⟨g,0,none⟩) (c.lens.length+m) cap');have f:V.ownBlock=some g:=by rw [<-hV];rfl
 rw [hV] at ho ⊢;have aP:=Qf w6 ⟨q,26,none⟩ V;have i:∀o,w6.cell? ⟨q,o,none⟩=w.cell? ⟨q,o,none⟩:=fun o=>World.cell?_of_block (w:=w) (a:=⟨q,o,none⟩) (hk q b1)
 have I:∀o,o≠26->(w6.setCell ⟨q,26,none⟩ V).cell? ⟨q,o,none⟩=w.cell? ⟨q,o,none⟩:=fun o ho=>(World.cell?_setCell_other _ _ _ _ dB).trans (i o)
 have A:(w6.setCell ⟨q,26,none⟩ V).cell? ⟨q,26,none⟩=some V:=World.cell?_setCell_same _ _ _ ((i 26).trans b5);have a0:∀k,k<B->k≠q->(w6.setCell ⟨q,26,none⟩ V).heap[k]?=w.heap[k]?:=fun k J h2=>(aP.block k dk jx).trans (hk k J)
 have l:=h.two;refine ⟨⟨h.ne,h.neh,h.two,?_,(I 0 dk).trans h.c0,?_,?_,?_,(I 28 dk).trans h.c28,?_,?_,?_,?_⟩,?_⟩
 ·exact ((h.rd.below hb).grown hg (fun e=>by have:=d p e.symm;omega) (fun e=>by have:=d hB e.symm;omega)).grown aP eJ eM
 ·exact fK
 ·exact fQ
 ·exact fL
 ·intro j
  rw [World.frozen?_setCell,World.frozen?_of_block (w:=w) (a:=⟨q,j,none⟩) (hk q b1)];exact h.free j
 ·refine ⟨B,V,b1,b2,b3,by have:=aP.size;omega,A,?_,?_,fun _=>?_⟩
  ·have:=ho.kept aP (.inr (by rw [f];simp;omega))
   rw [<-List.map_append] at this;rw [List.length_append,hm];exact this
  ·intro J h3
   have:c.st<=3:=h3;omega
  ·obtain ⟨t,S,m,L,w0,u,x2,x3,x4,x5,x6⟩:=b8 hst
   exact ⟨t,S,m,L,w0,(I 25 dk).trans u,x2,x3,x4,x5,fun k k1 k2=>(a0 k dk dk).trans (x6 k k1 k2)⟩
 ·rw [World.cell?_of_block (w:=w) (a:=⟨1,0,none⟩) (a0 1 dk dk)]
  exact h.g0
 ·intro k x
  rw [World.cell?_of_block (w:=w) (a:=⟨2,k,none⟩) (a0 2 dk dk)];exact h.g1 k x
 ·refine ⟨aP.os.trans (hg.os.trans hb.os),aP.tape.trans (hg.tape.trans hb.tape),aP.output.trans (hg.output.trans hb.output),by have:=aP.size;omega,?_,(fun o ho=>I o dk),?_⟩
  ·intro k k1 k2 k3 k4
   exact (aP.block k dk (by simpa using k2)).trans ((hg.block k dk (fun e=>k4 v b5 e.symm)).trans (hb.block k k1))
  ·intro v' k J h2
   rw [A] at J;cases J
   rw [f] at h2;cases h2
   rcases hat with e|e
   ·exact .inr ⟨v,b5,e⟩
   ·exact .inl dk
theorem Blk.news(h:Blk w g zs)(hb:zs.length<=maxLen):∀j u,(zs.map (Value.int .i64))[j]?=some u->w.cell? ((⟨g,0,none⟩:Addr).add j)=some u:=by
 have hl:(zs.map (Value.int .i64)).length=zs.length*1:=dr;have:w.ownsRow 0 2 1 (.slice (some ⟨g,0,none⟩) zs.length zs.length) zs.length (zs.map (Value.int .i64)):=⟨hl,.inr ⟨g,zs.length,_,rfl,Nat.zero_le _,h,Nat.le_refl _,hb,dr,List.take_of_length_le dr⟩⟩;exact this.cells rfl
end
theorem Qjp(W:World)(x:Int)(T:TypeId):Qv (W.alloc (.cells #[.int .i64 x] T)) (some ⟨W.heap.size,0,none⟩) [x]:=by
 intro i hi;have:i=0:=by simp at hi;omega
 subst this;exact ⟨W.heap.size,0,rfl,dF⟩
theorem QpA(q p hB:Nat)(zs:List Int)(rdy:Value)(c:LC)(x:Int)(t:Nat)(w:World)(hM:QH q p hB zs rdy w c)(hI:QfY c)(ht1:1<=t)(ht2:t<=138)(r:LC⊕(Int×LC))(hr:addS c x t=r):
  Calls prog 210 #[.pointer (some ⟨q,0,none⟩),.int .i64 x,.int .i64 (t:Nat)] w fun e w'=>Qu q p hB zs rdy r e w w':=by
 obtain ⟨i0,hi,af,ak,aq⟩:=info_parts Tryz.info_i64;have y:=hM.lt;obtain ⟨lo,G,T⟩:=hM.slice;obtain ⟨l,hl⟩:∃l:Nat,c.f 2=(l:Int):=⟨(c.f 2).toNat,by have:=hI.l1;omega⟩;obtain ⟨d,hd⟩:∃d:Nat,c.f 3=(d:Int):=⟨(c.f 3).toNat,by have:=hI.d1;omega⟩;have c2:=hM.num 2 dE;have c3:=hM.num 3 dE;rw [hl] at c2;rw [hd] at c3;have k1:=hI.l1;have k2:=hI.l2;have k3:=hI.d1;have k4:=hI.d2;have k5:=hI.n;rw [hl] at k1 k2 k5;rw [hd] at k3 k4 k5;unfold addS at hr;rw [hl,hd,Int.toNat_natCast] at hr;have HM:=Qe hM;have P:=Qe hI;have HR:=Qe hr;have HL:=Qe hl;clear hM hI hr hl hd;obtain ⟨N,hN⟩:=dt c.lens.length;rw [hN] at T k5 HR;have HN:=Qe hN;clear hN;go_enter func210,ntmps210;go_upto_region 1 with fail;go_region
 have A:=HM.u.below ((Below.refl _ _).drew:Below w.heap.size w w.drew);have ag:QJ q p w w.drew:=QJ.below y ((Below.refl _ _).drew);have X:w.drew.cell? ⟨q,26,none⟩=some (.slice lo N G):=T;have U:=Qe A;have ay:=Qe ag;clear HM A ag T;by_cases aX:(t:Int) > (l:Int)+(d:Int)-(N:Int)
 ·have HF:dm (Qu q p hB zs rdy r (.returned (.tuple #[.nilFunc,flt 3])) w w.drew):=by
   show Qu _ _ _ _ _ _ _ _ _;rw [<-HR.u,if_pos aX];exact Qu.no U.u ay.u
  go_wp2_with fail;exact bodyPost_ret (v:=.tuple #[.nilFunc,flt 3]) (by simp [results,results210,go_sem,flt]) rfl HF.u
 ·go_upto_region 4 with fail
  generalize w.drew=w1 at*;obtain ⟨B,v,b1,b2,Z,H,b5,b6,_,b8⟩:=U.u.own;have V:v=.slice lo N G:=Option.some.inj (b5.symm.trans X);subst V;have an:=U.u.lt;have HG:dm (∀(w5 w6:World) (g K:Nat),Below w1.heap.size w1 w5->w5.grownBy w6 (Value.slice lo N G).ownBlock->w6.ownsRow B 2 1 (.slice (some ⟨g,0,none⟩) (N+t) K) (N+t) (c.lens.map (Value.int .i64)++(List.replicate t x).map (Value.int .i64))->((Value.slice lo N G).ownBlock=some g\/g=w5.heap.size)->
    QH q p hB zs rdy (w6.setCell ⟨q,26,none⟩ (.slice (some ⟨g,0,none⟩) (N+t) K)) {c with lens:=c.lens++List.replicate t x}/\QJ q p w1 (w6.setCell ⟨q,26,none⟩ (.slice (some ⟨g,0,none⟩) (N+t) K))):=by
   intro w5 w6 g K hb O ho aa;have M:=HN.u;rw [<-M] at O ho aa b5 b6 ⊢;exact U.u.grow (w5:=w5) (w6:=w6) (g:=g) (cap':=K) (m:=t) (new:=List.replicate t x) b1 b2 Z H b5 b6 b8 P.u.st hb (List.length_replicate) O ho aa
  have E:=Qe<|Qfj b6
  rw [HN.u] at b6;have aZ:=Qe (fun (W:World) (hb:Below w1.heap.size w1 W)=>Qch b6 hb);have D:(w1.alloc (.cells #[.int .i64 x] 2)).drew.heap.size=w1.heap.size+1:=by
   show (w1.alloc (.cells #[.int .i64 x] 2)).heap.size=_;simp
  have aQ:dm (Calls prog 97 #[.slice (some ⟨w1.heap.size,0,none⟩) 1 1,.int .i64 (t:Nat)] (w1.alloc (.cells #[.int .i64 x] 2)).drew fun e w'=>e=.returned (.slice (some ⟨w1.heap.size+1,0,none⟩) t t)/\Blk w' (w1.heap.size+1) (List.replicate t x)/\Below w1.heap.size w1 w'):=by
   refine Calls.mono (Qdf w1.heap.size 0 1 t x (w1.alloc (.cells #[.int .i64 x] 2)).drew ((Qjp w1 x 2).below ((Below.refl _ _).drew)) ht1 dk) ?_;rintro e w' ⟨rfl,J,h2⟩;rw [D] at J h2 ⊢;exact ⟨rfl,J,(((Below.refl _ _).alloc (Nat.le_refl _) _).drew).trans (h2.mono dk)⟩
  clear D;have Y:∃g5,w1.heap.size+1=g5:=⟨_,rfl⟩;obtain ⟨g5,Y⟩:=Y;rw [Y] at aQ;clear Y;have b:=U.u.free 26;have o:=Qe b1;have F:=Qe H;have ai:((List.replicate t x).map (Value.int .i64)).length=t*1:=dr;have a1:dm (∀u∈(List.replicate t x).map (Value.int .i64),u.oneCell'=true):=by
   intro u hu;simp at hu;obtain ⟨_,rfl⟩:=hu;rfl
  have bm:dm (N+t<=maxLen):=by unfold maxLen;show _<=_;omega
  have bl:dm ((N+t)*8<=140737488355328):=gQ;have aw:dm (0<t):=by show _<_;omega
  have a3:dm ((List.replicate t x).length<=maxLen):=by show _<=_;rw [List.length_replicate];unfold maxLen;omega
  have au:=Qe ai;clear b1 b2 Z H b5 b6 b8 c2 c3 ai;generalize aB:c.lens.map (Value.int .i64)=XS at*;go_cut [29] from 30 to 52 (fun v wx=>v=.pointer (some ⟨q,0,none⟩)/\dm (QH q p hB zs rdy wx {c with lens:=c.lens++List.replicate t x})/\dm (QJ q p w1 wx))
  case first=>
   go_region_law (first
    | (go_simp;go_at_call 97;refine aQ.u.mono ?_;rintro e w5 ⟨rfl,s,aj⟩;have a0:=(aj.cell (p:=⟨q,26,none⟩) an).trans X;have a5:=(aj.frozen (p:=⟨q,26,none⟩) an).trans b;have I:=Qe (aZ.u w5 aj);have S:=Qe (s.news a3.u);have ad:dm (B<=w5.heap.size):=Nat.le_trans F.u aj.size;have aS:=aj.size;have a6:=Qe aj;clear aj s)
    | (refine step_append_lies _ rfl (.tmp 33) (.tmp 37) 70 rfl B 2 i0 (.int .i64 0) 1 8 underlying70 hi af ak aq rfl dn (.slice lo N G) N XS eh I.u ⟨g5,0,none⟩ t t ((List.replicate t x).map (Value.int .i64)) eh au.u S.u a1.u aw.u bm.u bl.u ad.u _ rfl ?_;intro g K w6 R Q aa ab;have aA:w6.cell? ⟨q,26,none⟩=some (.slice lo N G):=Q.cell a0 (fun e=>nX);have a9:w6.frozen? ⟨q,26,none⟩=false:=(World.frozen?_of_block (w:=w5) (a:=⟨q,26,none⟩) (Q.block q dk (fun e=>nX))).trans a5))
   all_goals
    have av:=HG.u w5 w6 g K a6.u Q R aa;have HA:=Qe av.1;have ao:=Qe av.2;clear av R Q aa aA a9 a0 a5 X;go_wp2_with fail;go_meet;exact ⟨rfl,HA,ao⟩
  case rest=>
   obtain ⟨rfl,HA,ao⟩:=hcut;clear HG E aZ aQ b o F a1 bm bl aw a3 au X;have al:=Qe<|ay.u.trans ao.u
   have k:=HA.u.lt;by_cases ab:(t:Int)<(l:Int)+(d:Int)-(N:Int)
   ·have HF:dm (Qu q p hB zs rdy r (.returned (.tuple #[.func (Fn.func 206) #[.pointer (some ⟨q,0,none⟩)] #[],.nilIface])) w wc):=by
     show Qu _ _ _ _ _ _ _ _ _;rw [<-HR.u,if_neg aX,if_pos ab];exact Qu.ok rfl (HA.u.at 4 (fun _ h=>dk) (fun _=>P.u.st)) al.u
    clear HR;go_wp2_with fail;exact bodyPost_ret (v:=.tuple #[.func (Fn.func 206) #[.pointer (some ⟨q,0,none⟩)] #[],.nilIface]) jG rfl HF.u
   ·have ai:(c.lens++List.replicate t x).length=N+t:=by rw [List.length_append,HN.u,List.length_replicate]
    obtain ⟨g,ar,a8,C,L⟩:=HA.u.last (by show 0<(c.lens++List.replicate t x).length;omega);have e2:=HA.u.num 2 dE;have az:=HA.u.c28;have a7:Below wc.heap.size wc wc.drew:=(Below.refl _ _).drew;have i:=Qe<|Qgh q g ar l (c.lens++List.replicate t x) wc.drew a8 (by show wc.cell? _=_;rw [e2];show some (Value.int .i64 (c.f 2))=_;rw [HL.u]) dk C dk (L.below a7) dk
    have z:dm ((if chk ((c.lens++List.replicate t x).take l) ((c.lens++List.replicate t x).drop l) then Sum.inl {c with st:=6,lens:=c.lens++List.replicate t x} else Sum.inr ((3:Int),{c with lens:=c.lens++List.replicate t x}))=r):=by
     show _=_;rw [<-HR.u,if_neg aX,if_neg ab]
    clear HR a8 e2 C L ai ay ao U;by_cases a2:chk ((c.lens++List.replicate t x).take l) ((c.lens++List.replicate t x).drop l)
    ·have a4:dm (Calls prog 215 #[.pointer (some ⟨q,0,none⟩)] wc.drew fun e w'=>e=.returned .nilIface/\Below wc.heap.size wc w'):=Calls.mono i.u (fun e w' h=>⟨h.1.1 a2,a7.trans h.2⟩)
     have HX:dm (r=Sum.inl {c with st:=6,lens:=c.lens++List.replicate t x}):=by
      show _=_;rw [<-z.u,if_pos a2]
     clear i z a2 a7;go_upto_region 7 with fail;go_region_held3 (fun w'=>w'.cell? ⟨q,28,none⟩=some rdy)
      (first|(with_reducible assumption)|(go_keep;done))
      ((go_at_call 215;refine Calls.mono a4.u ?_;rintro e w8 ⟨rfl,j⟩;have ah:=(j.cell (p:=⟨q,28,none⟩) k).trans az))
     have HF:dm (Qu q p hB zs rdy r (.returned (.tuple #[rdy,.nilIface])) w w8):=by
      show Qu _ _ _ _ _ _ _ _ _;rw [HX.u];exact Qu.ok (show rdy=lnow q rdy 6 from (if_neg dn).symm) ((HA.u.below j).at 6 (fun _ h=>dk) (fun _=>P.u.st)) (al.u.trans (QJ.below k j))
     clear j HX a4;go_wp2_with fail;exact bodyPost_ret (v:=.tuple #[rdy,.nilIface]) jG rfl HF.u
    ·have a4:dm (Calls prog 215 #[.pointer (some ⟨q,0,none⟩)] wc.drew fun e w'=>e=.returned (flt 3)/\Below wc.heap.size wc w'):=Calls.mono i.u (fun e w' h=>⟨h.1.2 a2,a7.trans h.2⟩)
     have HX:dm (r=Sum.inr ((3:Int),{c with lens:=c.lens++List.replicate t x})):=by
      show _=_;rw [<-z.u,if_neg a2]
     obtain ⟨V2,ae⟩:=dt (flt 3);rw [ae] at a4;have ax:=Qe ae;clear i z a2 a7 ae;go_upto_region 7 with fail;go_region_held3 (fun w'=>w'.cell? ⟨q,28,none⟩=some rdy)
      (first|(with_reducible assumption)|(go_keep;done))
      ((go_at_call 215;refine Calls.mono a4.u ?_;rintro e w8 ⟨rfl,j⟩;have ah:=(j.cell (p:=⟨q,28,none⟩) k).trans az))
     have HF:dm (Qu q p hB zs rdy r (.returned (.tuple #[rdy,V2])) w w8):=by
      show Qu _ _ _ _ _ _ _ _ _;rw [HX.u,<-ax.u];exact Qu.no (HA.u.below j) (al.u.trans (QJ.below k j))
     clear j HX a4;go_wp2_with fail;exact bodyPost_ret (v:=.tuple #[rdy,V2]) jG rfl HF.u
theorem Qhg(q p hB:Nat)(zs:List Int)(rdy:Value):Qjn q p hB zs rdy:=fun c x t w hM hI h1 h2=>QpA q p hB zs rdy c x t w hM hI h1 h2 _ rfl
section
variable{ls:List Int}{b n:Nat}
theorem Qa8.sym{s l:Nat}(h:Qa8 ls b n 1 s l):s<ls.length:=by
 unfold Qa8 at h;split at h
 ·rcases h with ⟨i,J,h2,_,h3,h4⟩|⟨i,_,_,h3,_⟩|⟨_,h3,_⟩
  ·have h6:=J.1.lt
   omega
  ·omega
  ·omega
 ·omega
theorem QaP{ls:List Int}{b n:Nat}(h:(nx3 ls b n).1=1):(nx3 ls b n).2.1<ls.length/\(nx3 ls b n).2.2<=n:=by
 have h2:=Qhy ls b n;rw [h] at h2;exact ⟨h2.sym,h2.len.1⟩
theorem QH.next{q p hB:Nat}{zs:List Int}{rdy:Value}{w:World}{c:LC}(h:QH q p hB zs rdy w c)(v:Value):QH q p hB zs rdy (w.setCell ⟨q,1,none⟩ v) c:=by
 have I:∀o,o≠1->(w.setCell ⟨q,1,none⟩ v).cell? ⟨q,o,none⟩=w.cell? ⟨q,o,none⟩:=fun o ho=>World.cell?_setCell_other _ _ _ _ dB
 have O:=Qf w ⟨q,1,none⟩ v;obtain ⟨B,u,b1,b2,Z,H,b5,b6,b7,b8⟩:=h.own;obtain ⟨b,ho⟩:=h.c1;refine ⟨h.ne,h.neh,h.two,h.rd.grown O eJ eM,(I 0 dk).trans h.c0,⟨v,World.cell?_setCell_same _ _ _ ho⟩,?_,?_,(I 28 dk).trans h.c28,?_,?_,?_,?_⟩
 ·exact fQ
 ·exact fL
 ·exact fM
 ·exact nY
 ·exact fN
 ·exact fP
end
section
variable{c c':LC}{zs:List Int}
structure QQ(c:LC):Prop where
 s6:c.st<=6
 lit:1<=c.st->257<=c.f 2/\c.f 2<=286
 dist:2<=c.st->1<=c.f 3/\c.f 3<=30
 zero:1<=c.st->c.st<=2->c.f 24=0
 cod:c.st=3->0<=c.f 24/\c.f 24<c.f 4/\c.f 4<=19
 len0:1<=c.st->c.st<=3->c.lens=[]
 len:4<=c.st->c.st<=5->(c.lens.length:Int)<c.f 2+c.f 3
 tb:4<=c.st->c.tb.length=19
 rep:c.st=5->(c.f 27=16/\0<c.lens.length)\/c.f 27=17\/c.f 27=18
theorem QQ.none(c:LC)(h:c.st=0):QQ c:=by
 refine ⟨?_,?_,?_,?_,?_,?_,?_,?_,?_⟩<;>(intros;omega)
theorem QQ.inv(h:QQ c)(h4:4<=c.st)(h5:c.st<=5):QfY c:=
 ⟨h4,(h.lit dk).1,(h.lit dk).2,(h.dist dk).1,(h.dist dk).2,h.len h4 h5⟩
theorem QiQ(h:QQ c)(hs:QS zs c=.inl c'):QQ c':=by
 unfold QS at hs;split at hs
 ·split at hs
  ·cases hs
  ·rename_i J h2
   injection hs with hs;subst hs;have e2:upd (clr (upd c.f 2 ((field (bnum zs) c.i 5:Nat)+257))) 24 0 2=(field (bnum zs) c.i 5:Nat)+257:=by simp [upd,clr]
   refine ⟨by show 1<=6;omega,fun _=>?_,fun h=>?_,fun _ _=>?_,fun h=>?_,fun _ _=>rfl,fun h=>?_,fun h=>?_,fun h=>?_⟩
   ·dsimp only
    rw [e2];omega
   ·have:2<=1:=h
    omega
   ·dsimp only
    simp [upd]
   ·have:(1:Nat)=3:=h
    omega
   ·have:4<=1:=h
    omega
   ·have:4<=1:=h
    omega
   ·have:(1:Nat)=5:=h
    omega
 ·cases hs
theorem QgY(h:QQ c)(h1:c.st=1)(hs:QF zs c=.inl c'):QQ c':=by
 unfold QF at hs;split at hs
 ·split at hs
  ·cases hs
  ·rename_i _ h2
   injection hs with hs;subst hs;refine ⟨by show 2<=6;omega,fun _=>?_,fun _=>?_,fun _ _=>?_,fun h=>?_,fun _ _=>h.len0 dk dk,fun h=>?_,fun h=>?_,fun h=>?_⟩
   ·exact jH
   ·dsimp only
    rw [upd,if_pos rfl];omega
   ·dsimp only
    rw [upd,if_neg dn];exact h.zero dk dk
   ·have:(2:Nat)=3:=h
    omega
   ·have:4<=2:=h
    omega
   ·have:4<=2:=h
    omega
   ·have:(2:Nat)=5:=h
    omega
 ·cases hs
theorem QgX(h:QQ c)(h2:c.st=2)(hs:QE zs c=.inl c'):QQ c':=by
 unfold QE at hs;split at hs
 ·injection hs with hs
  subst hs;have Y:field (bnum zs) c.i 4<16:=Q4 _ _ _;refine ⟨by show 3<=6;omega,fun _=>?_,fun _=>?_,fun _ h=>?_,fun _=>?_,fun _ _=>h.len0 dk dk,fun h=>?_,fun h=>?_,fun h=>?_⟩
  ·exact jH
  ·exact nZ
  ·have:3<=2:=h
   omega
  ·dsimp only
   rw [upd,upd,if_neg dn,if_pos rfl,h.zero dk dk];omega
  ·have:4<=3:=h
   omega
  ·have:4<=3:=h
   omega
  ·have:(3:Nat)=5:=h
   omega
 ·cases hs
end
section
variable{c c':LC}{zs:List Int}
theorem QQ.ati(h:QQ c)(i:Nat):QQ {c with i:=i}:=⟨h.s6,h.lit,h.dist,h.zero,h.cod,h.len0,h.len,h.tb,h.rep⟩
theorem QaR(f:Nat->Int)(F j:Nat)(hk:(f 24).toNat<19)(hj:j<5\/24<j):cl1 f F j=f j:=by
 have:=Qfp _ hk;unfold cl1;rw [upd,if_neg dk,upd,if_neg dk]
theorem QjB(f:Nat->Int)(F:Nat):cl1 f F 24=f 24+1:=by
 unfold cl1;rw [upd,if_pos rfl]
theorem QfH{v:Int}{t:Nat}(h:QQ c)(h4:4<=c.st)(hs:addS c v t=.inl c'):QQ c':=by
 unfold addS at hs;split at hs
 ·cases hs
 ·split at hs
  ·rename_i J h2
   injection hs with hs;subst hs;refine ⟨by show 4<=6;omega,fun _=>h.lit dk,fun _=>h.dist dk,fun _ h=>?_,fun h=>?_,fun _ h=>?_,fun _ _=>?_,fun _=>h.tb h4,fun h=>?_⟩
   ·have:4<=2:=h
    omega
   ·have:(4:Nat)=3:=h
    omega
   ·have:4<=3:=h
    omega
   ·dsimp only
    rw [List.length_append,List.length_replicate];omega
   ·have:(4:Nat)=5:=h
    omega
  ·split at hs
   ·injection hs with hs
    subst hs;refine ⟨by show 6<=6;omega,fun _=>h.lit dk,fun _=>h.dist dk,fun _ h=>?_,fun h=>?_,fun _ h=>?_,fun _ h=>?_,fun _=>h.tb h4,fun h=>?_⟩
    ·have:6<=2:=h
     omega
    ·have:(6:Nat)=3:=h
     omega
    ·have:6<=3:=h
     omega
    ·have:6<=5:=h
     omega
    ·have:(6:Nat)=5:=h
     omega
   ·cases hs
theorem Qd5(h:QQ c)(h3:c.st=3)(hs:QX zs c=.inl c'):QQ c':=by
 obtain ⟨k1,k2,k3⟩:=h.cod h3;have hk:(c.f 24).toNat<19:=dk;unfold QX at hs;split at hs
 ·split at hs
  ·rename_i _ ab
   injection hs with hs;subst hs;refine ⟨by show 3<=6;omega,fun _=>?_,fun _=>?_,fun _ h=>?_,fun _=>?_,fun _ _=>h.len0 dk dk,fun h=>?_,fun h=>?_,fun h=>?_⟩
   ·dsimp only
    rw [QaR _ _ _ hk dk];exact h.lit dk
   ·dsimp only
    rw [QaR _ _ _ hk dk];exact h.dist dk
   ·have:3<=2:=h
    omega
   ·dsimp only
    rw [QjB,QaR _ _ _ hk dk];omega
   ·have:4<=3:=h
    omega
   ·have:4<=3:=h
    omega
   ·have:(3:Nat)=5:=h
    omega
  ·split at hs
   ·injection hs with hs
    subst hs;have l0:=h.len0 dk dk;have a1:=h.lit dk;have a2:=h.dist dk;refine ⟨by show 4<=6;omega,fun _=>?_,fun _=>?_,fun _ h=>?_,fun h=>?_,fun _ h=>?_,fun _ _=>?_,fun _=>QbK _,fun h=>?_⟩
    ·dsimp only
     rw [QaR _ _ _ hk dk];exact a1
    ·dsimp only
     rw [QaR _ _ _ hk dk];exact a2
    ·have:4<=2:=h
     omega
    ·have:(4:Nat)=3:=h
     omega
    ·omega
    ·dsimp only
     rw [QaR _ _ _ hk dk,QaR _ _ _ hk dk,l0];simp only [List.length_nil];omega
    ·have:(4:Nat)=5:=h
     omega
   ·cases hs
 ·cases hs
theorem Qdq{n:Nat}(h:QQ c)(h4:c.st=4)(hs:Vq zs c n=.inl c'):QQ c':=by
 unfold Vq at hs;split at hs
 ·rename_i hk
  have H:=QaP hk;rw [h.tb dk] at H;split at hs
  ·exact QfH (h.ati _) ff hs
  ·split at hs
   ·cases hs
   ·rename_i g1 g2
    injection hs with hs;subst hs;refine ⟨by show 5<=6;omega,fun _=>?_,fun _=>?_,fun _ h=>?_,fun h=>?_,fun _ h=>?_,fun _ _=>?_,fun _=>h.tb dk,fun _=>?_⟩
    ·exact jH
    ·exact nZ
    ·have:5<=2:=h
     omega
    ·have:(5:Nat)=3:=h
     omega
    ·have:5<=3:=h
     omega
    ·dsimp only
     rw [upd,upd,if_neg dn,if_neg dn];exact h.len dk dk
    ·dsimp only
     rw [upd,if_pos rfl];generalize (nx3 c.tb (field (bnum zs) c.i n) n).2.1=s at*;omega
 ·split at hs
  ·cases hs
  ·cases hs
theorem Qjh(h:QQ c)(h5:c.st=5)(hs:Vs zs c=.inl c'):QQ c':=by
 unfold Vs at hs;split at hs
 ·exact QfH (h.ati _) ff hs
 ·cases hs
end
section
variable{c c':LC}
def Qx(zs:List Int)(c:LC):LC⊕(Int×LC):=
 if c.st=0 then QS zs c else if c.st=1 then QF zs c else if c.st=2 then QE zs c else if c.st=3 then QX zs c else if c.st=4 then Vq zs c (Nat.min (8*zs.length-c.i) 15) else Vs zs c
theorem VY{zs:List Int}(h:QQ c)(h5:c.st<=5)(hs:Qx zs c=.inl c'):QQ c':=by
 unfold Qx at hs;split at hs
 ·exact QiQ h hs
 ·split at hs
  ·rename_i J
   exact QgY h J hs
  ·split at hs
   ·rename_i J
    exact QgX h J hs
   ·split at hs
    ·rename_i J
     exact Qd5 h J hs
    ·split at hs
     ·rename_i J
      exact Qdq h J hs
     ·exact Qjh h dk hs
def lmu(c:LC):Nat:=
 if c.st=0 then 4000 else if c.st=1 then 3000 else if c.st=2 then 2000 else if c.st=3 then 1000+(19-c.f 24).toNat else if c.st=4 then 2*(400-c.lens.length)+1 else if c.st=5 then 2*(400-c.lens.length) else 0
theorem QmP(c:LC)(h:QQ c):(c.st=3->1000<lmu c/\lmu c<2000)/\(4<=c.st->lmu c<=801):=by
 unfold lmu;refine ⟨fun h3=>?_,fun h4=>?_⟩
 ·have:=h.cod h3
  rw [if_neg dk,if_neg dk,if_neg dk,if_pos h3];omega
 ·rw [if_neg dk,if_neg dk,if_neg dk,if_neg dk]
  split
  ·omega
  ·split<;>omega
theorem Qjo{v:Int}{t:Nat}(h:QQ c)(h4:4<=c.st)(h5:c.st<=5)(ht:1<=t)(ht2:c.st=5->2<=t)(hs:addS c v t=.inl c'):lmu c'<lmu c:=by
 have a1:=h.lit dk;have a2:=h.dist dk;have q:=h.len h4 h5;have I:lmu c=if c.st=4 then 2*(400-c.lens.length)+1 else 2*(400-c.lens.length):=by
  unfold lmu;rw [if_neg dk,if_neg dk,if_neg dk,if_neg dk];split
  ·rfl
  ·rw [if_pos dk]
 unfold addS at hs;split at hs
 ·cases hs
 ·split at hs
  ·injection hs with hs
   subst hs;rw [I];have:lmu {c with st:=4,lens:=c.lens++List.replicate t v}=2*(400-(c.lens.length+t))+1:=by simp [lmu]
   rw [this];split<;>omega
  ·split at hs
   ·injection hs with hs
    subst hs;rw [I];have:lmu {c with st:=6,lens:=c.lens++List.replicate t v}=0:=by simp [lmu]
    rw [this];split<;>omega
   ·cases hs
end
theorem Qce(c:LC)(s:Nat)(hs:c.st=s):lmu c=if s=0 then 4000 else if s=1 then 3000 else if s=2 then 2000 else if s=3 then 1000+(19-c.f 24).toNat else if s=4 then 2*(400-c.lens.length)+1 else if s=5 then 2*(400-c.lens.length) else 0:=by
 subst hs;rfl
theorem Qiy{zs:List Int}{c c':LC}(h:QQ c)(h5:c.st<=5)(hs:Qx zs c=.inl c'):lmu c'<lmu c:=by
 have A:=VY h h5 hs;unfold Qx at hs;split at hs
 ·rename_i H
  rw [Qce c 0 H];unfold QS at hs;split at hs
  ·split at hs
   ·cases hs
   ·injection hs with hs
    rw [Qce c' 1 fg];show 3000<4000;omega
  ·cases hs
 ·split at hs
  ·rename_i J
   rw [Qce c 1 J];unfold QF at hs;split at hs
   ·split at hs
    ·cases hs
    ·injection hs with hs
     rw [Qce c' 2 fg];show 2000<3000;omega
   ·cases hs
  ·split at hs
   ·rename_i h2
    rw [Qce c 2 h2];unfold QE at hs;split at hs
    ·injection hs with hs
     have:=(QmP c' A).1 fg;show lmu c'<2000;omega
    ·cases hs
   ·split at hs
    ·rename_i h3
     have I:=h.cod h3;rw [Qce c 3 h3];show lmu c'<1000+(19-c.f 24).toNat;unfold QX at hs;split at hs
     ·split at hs
      ·injection hs with hs
       rw [Qce c' 3 fg];have e:c'.f 24=c.f 24+1:=by rw [<-hs];exact QjB _ (field (bnum zs) c.i 3)
       rw [e];show 1000+(19-(c.f 24+1)).toNat<_;omega
      ·split at hs
       ·injection hs with hs
        have:=(QmP c' A).2 (by rw [<-hs];exact Nat.le_refl 4);omega
       ·cases hs
     ·cases hs
    ·split at hs
     ·rename_i h4
      unfold Vq at hs;split at hs
      ·split at hs
       ·have hl:=Qjo (h.ati (c.i+_)) ff (by show c.st<=5;omega) (Nat.le_refl 1) (fun h=>by have:c.st=5:=h;omega) hs
        exact hl
       ·split at hs
        ·cases hs
        ·injection hs with hs
         rw [Qce c 4 h4,Qce c' 5 fg];have e:c'.lens=c.lens:=fg;rw [e];show 2*(400-c.lens.length)<2*(400-c.lens.length)+1;omega
      ·split at hs
       ·cases hs
       ·cases hs
     ·have a:c.st=5:=dk
      unfold Vs at hs;split at hs
      ·have ht:3<=Qej c:=by unfold Qej;split<;>omega
       have hl:=Qjo (h.ati (c.i+QcO c)) ff (by show c.st<=5;omega) dk (fun _=>dk) hs;exact hl
      ·cases hs
theorem Qk2(q p hB:Nat)(zs:List Int)(rdy:Value)(c:LC)(w:World)(hM:QH q p hB zs rdy w c)(hW:QQ c)(h5:c.st<=5)(hz:Qh zs)(hzl:zs.length<=65536):
  Calls prog (lfn c.st) #[.pointer (some ⟨q,0,none⟩)] w fun e w'=>Qu q p hB zs rdy (Qx zs c) e w w':=by
 have I:c.st=0\/c.st=1\/c.st=2\/c.st=3\/c.st=4\/c.st=5:=dk;rcases I with h|h|h|h|h|h
 ·have e:Qx zs c=QS zs c:=by unfold Qx;rw [if_pos h]
  rw [e,h];exact Qh6 q p hB zs rdy c w hM h hz hzl
 ·have e:Qx zs c=QF zs c:=by unfold Qx;rw [if_neg dk,if_pos h]
  rw [e,h];exact Qgl q p hB zs rdy c w hM h hz hzl
 ·have e:Qx zs c=QE zs c:=by unfold Qx;rw [if_neg dk,if_neg dk,if_pos h]
  rw [e,h];exact Qgt q p hB zs rdy c w hM h hz hzl
 ·have e:Qx zs c=QX zs c:=by unfold Qx;rw [if_neg dk,if_neg dk,if_neg dk,if_pos h]
  have hk:=hW.cod h;rw [e,h];exact Qi7 q p hB zs rdy c (c.f 24).toNat w hM h dk dk hz hzl _ rfl
 ·have e:Qx zs c=Vq zs c (Nat.min (8*zs.length-c.i) 15):=by unfold Qx;rw [if_neg dk,if_neg dk,if_neg dk,if_neg dk,if_pos h]
  rw [e,h];exact Qik q p hB zs rdy c _ w hM (hW.inv dk dk) (Qhg q p hB zs rdy) hz hzl rfl _ rfl
 ·have e:Qx zs c=Vs zs c:=by unfold Qx;rw [if_neg dk,if_neg dk,if_neg dk,if_neg dk,if_neg dk]
  have hI:=hW.inv dk dk;rcases hW.rep h with ⟨R,H⟩|l|j
  ·rw [e,h]
   exact QlM q p hB zs rdy c w hM hI (Qhg q p hB zs rdy) hz hzl R H _ rfl
  ·rw [e,h]
   exact Qm8 q p hB zs rdy c w hM hI (Qhg q p hB zs rdy) hz hzl l _ rfl
  ·rw [e,h]
   exact QlJ q p hB zs rdy c w hM hI (Qhg q p hB zs rdy) hz hzl j _ rfl
theorem QJ.toBelow{q p hB B:Nat}{zs:List Int}{rdy:Value}{w w':World}{c:LC}(h:QJ q p w w')(hM:QH q p hB zs rdy w c)(hq:B<=q)(hp:B<=p):Below B w w':=by
 obtain ⟨M,v,b1,b2,Z,H,b5,b6,_⟩:=hM.own;refine ⟨h.os,h.tape,h.output,h.size,fun k hk=>h.block k (by have:=hM.lt;omega) dk dk ?_⟩;intro u hu e;rw [b5] at hu;cases hu
 have:=Qfj b6 k e;omega
theorem Qim(args:Array Value)(W:World):Sem.run prog (callFunc 149 args) W=.ok (.enter 149 args) W:=by kernel_rfl
theorem QhO(args:Array Value)(W:World):Sem.run prog (callFunc 178 args) W=.ok (.enter 178 args) W:=by kernel_rfl
theorem QhP(args:Array Value)(W:World):Sem.run prog (callFunc 192 args) W=.ok (.enter 192 args) W:=by kernel_rfl
theorem QjG(args:Array Value)(W:World):Sem.run prog (callFunc 199 args) W=.ok (.enter 199 args) W:=by kernel_rfl
theorem Qk4(args:Array Value)(W:World):Sem.run prog (callFunc 206 args) W=.ok (.enter 206 args) W:=by kernel_rfl
theorem Qm5(args:Array Value)(W:World):Sem.run prog (callFunc 211 args) W=.ok (.enter 211 args) W:=by kernel_rfl
theorem QqX(s:Nat)(hs:s<=5)(args:Array Value)(W:World):Sem.run prog (callFunc (lfn s) args) W=.ok (.enter (lfn s) args) W:=by
 have h3:s=0\/s=1\/s=2\/s=3\/s=4\/s=5:=dk;rcases h3 with rfl|rfl|rfl|rfl|rfl|rfl
 ·exact Qim args W
 ·exact QhO args W
 ·exact QhP args W
 ·exact QjG args W
 ·exact Qk4 args W
 ·exact Qm5 args W
end Go.Proofs.YtgginbpmebgkcaaGreatDoor
