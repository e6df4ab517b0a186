import Derived.Deep.MidRow
import Derived.BigRegion
import Derived.Deep.RegionHeld3
import Derived.Test.YtgginbpmebgkcaaGreatDoorMAJ
import Derived.Test.YtgginbpmebgkcaaGreatDoorMAO
namespace Go.Proofs.YtgginbpmebgkcaaGreatDoor
open Go.RowKit Go.Proofs.Tryz
attribute [local go_sem ↓] Go.wp_at_zero Go.wp_at_succ
set_option linter.unusedVariables false
set_option maxRecDepth 100000
set_option maxHeartbeats 25600000
section
variable{q p hB:Nat}{w:World}{zs:List Int}{rdy:Value}{c:LC}
def Z19:List Value:=[.int .i64 0,.int .i64 0,.int .i64 0,.int .i64 0,.int .i64 0,.int .i64 0,.int .i64 0,.int .i64 0,.int .i64 0,.int .i64 0,.int .i64 0,.int .i64 0,.int .i64 0,.int .i64 0,.int .i64 0,.int .i64 0,.int .i64 0,.int .i64 0,.int .i64 0]
def clr(f:Nat->Int):Nat->Int:=fun j=>if 5<=j/\j<=23 then 0 else f j
theorem Qq2(j:Nat)(h:j<Z19.length):Z19[j]=.int .i64 0:=by
 have h2:j<19:=h;have h3:j=0\/j=1\/j=2\/j=3\/j=4\/j=5\/j=6\/j=7\/j=8\/j=9\/j=10\/j=11\/j=12\/j=13\/j=14\/j=15\/j=16\/j=17\/j=18:=dk;rcases h3 with rfl|rfl|rfl|rfl|rfl|rfl|rfl|rfl|rfl|rfl|rfl|rfl|rfl|rfl|rfl|rfl|rfl|rfl|rfl<;>rfl
theorem QH.put{w':World}{f':Nat->Int}(h:QH q p hB zs rdy w c)(hg:w.grownBy w' (some q))(hc:∀o,¬Q8 o->w'.cell? ⟨q,o,none⟩=w.cell? ⟨q,o,none⟩)(hf:∀o,w'.frozen? ⟨q,o,none⟩=w.frozen? ⟨q,o,none⟩)(hn:∀k,Q8 k->w'.cell? ⟨q,k,none⟩=some (.int .i64 (f' k))):QH q p hB zs rdy w' {c with f:=f'}:=by
 obtain ⟨B,v,b1,b2,Z,H,b5,b6,b7,b8⟩:=h.own;refine ⟨h.ne,h.neh,h.two,h.rd.grown hg eJ eM,(hc 0 dE).trans h.c0,?_,hn,?_,(hc 28 dE).trans h.c28,?_,?_,?_,?_⟩
 ·obtain ⟨b,ho⟩:=h.c1
  exact ⟨b,(hc 1 dE).trans ho⟩
 ·obtain ⟨b,ho⟩:=h.c25
  exact ⟨b,(hc 25 dE).trans ho⟩
 ·intro j
  rw [hf];exact h.free j
 ·refine ⟨B,v,b1,b2,Z,Nat.le_trans H hg.size,(hc 26 dE).trans b5,?_,b7,?_⟩
  ·refine b6.kept hg ?_
   exact gO
  ·intro E
   obtain ⟨t,S,m,L,w0,J,h2,h3,h4,U,h6⟩:=b8 E;refine ⟨t,S,m,L,w0,(hc 25 dE).trans J,h2,h3,h4,U,fun j k1 k2=>?_⟩;rw [<-h6 j k1 k2];exact hg.block j dk du
 ·exact hg.cell h.g0 fJ
 ·exact nI
theorem QH.zeros(h:QH q p hB zs rdy w c):QH q p hB zs rdy (w.setCells q 5 Z19) {c with f:=clr c.f}:=by
 have hl:Z19.length=19:=rfl;refine h.put (Q5 q Z19 5 w) ?_ ?_ ?_
 ·intro o ho
  refine World.cell?_setCells_out q Z19 5 w ⟨q,o,none⟩ (fun _ _=>?_);unfold Q8 at ho;show o<5\/5+Z19.length<=o;omega
 ·intro o
  exact World.frozen?_setCells q Z19 5 w ⟨q,o,none⟩
 ·intro k hk
  by_cases hm:5<=k/\k<=23
  ·have J:=World.cell?_setCells_in q Z19 5 w (fun j hj=>by rw [h.num (5+j) dE];rfl) (k-5) dk
   rw [show 5+(k-5)=k from dk] at J;rw [J,Qq2];simp [clr,hm]
  ·rw [World.cell?_setCells_out q Z19 5 w ⟨q,k,none⟩ (fun _ _=>by show k<5\/5+Z19.length<=k;omega),h.num k hk]
   simp [clr,hm]
theorem QJ.zeros:QJ q p w (w.setCells q 5 Z19):=by
 have hl:Z19.length=19:=rfl;have I:∀o,26<=o->(w.setCells q 5 Z19).cell? ⟨q,o,none⟩=w.cell? ⟨q,o,none⟩:=fun o ho=>World.cell?_setCells_out q Z19 5 w ⟨q,o,none⟩ (fun _ _=>by show o<5\/5+Z19.length<=o;omega)
 have O:=Q5 q Z19 5 w;exact jy
theorem QH.bare(h:QH q p hB zs rdy w c)(s:Nat)(hs:s<=3):QH q p hB zs rdy (w.setCell ⟨q,26,none⟩ (.slice none 0 0)) {c with st:=s,lens:=[]}:=by
 have O:=Qf w ⟨q,26,none⟩ (.slice none 0 0);have I:∀o,o≠26->(w.setCell ⟨q,26,none⟩ (.slice none 0 0)).cell? ⟨q,o,none⟩=w.cell? ⟨q,o,none⟩:=fun o ho=>World.cell?_setCell_other _ _ _ _ dB
 obtain ⟨B,v,b1,b2,Z,H,b5,b6,b7,b8⟩:=h.own;refine ⟨h.ne,h.neh,h.two,h.rd.grown O eJ eM,(I 0 dk).trans h.c0,?_,?_,?_,(I 28 dk).trans h.c28,?_,?_,?_,?_⟩
 ·exact fK
 ·exact fQ
 ·exact fL
 ·exact fM
 ·refine ⟨B,.slice none 0 0,b1,b2,Z,Nat.le_trans H O.size,World.cell?_setCell_same _ _ _ b5,⟨rfl,.inl ⟨rfl,rfl⟩⟩,(fun _ _=>rfl),(fun h4=>?_)⟩
  have:4<=s:=h4;omega
 ·exact fN
 ·exact fP
theorem QJ.bare{v:Value}(hv:w.cell? ⟨q,26,none⟩=some v):QJ q p w (w.setCell ⟨q,26,none⟩ (.slice none 0 0)):=by
 have O:=Qf w ⟨q,26,none⟩ (.slice none 0 0);refine ⟨O.os,O.tape,O.output,O.size,?_,(fun o ho=>World.cell?_setCell_other _ _ _ _ dB),?_⟩
 ·intro j hj J _ _
  exact O.block j hj (by simpa using J)
 ·intro v' k J h2
  rw [World.cell?_setCell_same _ _ _ hv] at J;cases J
  cases h2
end
def QS(zs:List Int)(c:LC):LC⊕(Int×LC):=
 if c.i+5<=8*zs.length then
  if ((field (bnum zs) c.i 5:Nat):Int)+257 > 286 then .inr (3,{c with i:=c.i+5,f:=upd c.f 2 ((field (bnum zs) c.i 5:Nat)+257)}) else .inl {c with st:=1,i:=c.i+5,f:=upd (clr (upd c.f 2 ((field (bnum zs) c.i 5:Nat)+257))) 24 0,lens:=[]}
 else .inr (2,c)
theorem Tryz.size_19:(prog.info? 68).map (·.size)=some 19:=by kernel_rfl
theorem QoM:Z19.toArray.all (·.oneCell')=true:=all_oneCell_toArray (by intro v hv;simp [Z19] at hv;subst hv;rfl)
theorem Qnl:Z19.toArray.size=19:=rfl
theorem QH.there{q p hB:Nat}{zs:List Int}{rdy:Value}{w:World}{c:LC}(h:QH q p hB zs rdy w c):w.there q 5 19:=by
 intro j hj;exact ⟨by rw [h.num (5+j) dE];rfl,h.free _⟩
theorem Qh6(q p hB:Nat)(zs:List Int)(rdy:Value)(c:LC)(w:World)(hM:QH q p hB zs rdy w c)(hs:c.st=0)(hz:Qh zs)(hzl:zs.length<=65536):
  Calls prog 149 #[.pointer (some ⟨q,0,none⟩)] w fun e w'=>Qu q p hB zs rdy (QS zs c) e w w':=by
 have y:=hM.lt;have HM:=Qe hM;clear hs;unfold QS;by_cases M:c.i+5<=8*zs.length
 ·rw [if_pos M]
  have HN:=Qe<|Q7 q p hB zs c.i 5 w hM.c0 hM.rd hz hzl dn M
  have Y:=VM (bnum zs) c.i 5 dn;generalize field (bnum zs) c.i 5=F at*;clear hM M;by_cases hx:(F:Int)+257 > 286
  ·rw [if_pos hx]
   go_enter func149,ntmps149;go_wp2_with fail;refine Calls.mono HN.u ?_;rintro e w1 ⟨rfl,P,O⟩;have A:=HM.u.went P O;have a:=Qe<|A.set 2 dE ((F:Int)+257)
   have al:=Qe<|(QJ.num HM.u.ne y O).trans (QJ.set 2 (.int .i64 ((F:Int)+257)) dn)
   have q2:=A.num 2 dE;have f2:=A.free 2;clear A P O HN HM;go_wp2_with fail;exact bodyPost_ret (v:=.tuple #[.nilFunc,flt 3]) nM rfl (Qu.no a.u al.u)
  ·rw [if_neg hx]
   have aM:decide ((F:Int)+257 > 286)=false:=decide_eq_false hx;go_enter func149,ntmps149;go_wp2_with fail;refine Calls.mono HN.u ?_;rintro e w1 ⟨rfl,P,O⟩;have A:=HM.u.went P O;have u:=A.set 2 dE ((F:Int)+257);have al:=(QJ.num HM.u.ne y O).trans (QJ.set (p:=p) (q:=q) 2 (.int .i64 ((F:Int)+257)) dn);have q2:=A.num 2 dE;have f2:=A.free 2;have l:=u.num 2 dE;simp only [upd,if_pos] at l;have I:=Qe u;have a7:=Qe al;clear A u P O HN HM al;go_upto_region 7 with fail;clear q2 f2;generalize w1.setCell ⟨q,2,none⟩ (.int .i64 ((F:Int)+257))=w2 at*;have u:=I.u;have n:=u.there;have D:=Tryz.size_19;have f:=QoM;rw [<-Qnl] at n D;have j:=u.zeros;have R:=j.num 24 dE;have W:=j.free 24;have b:=j.free 26;have E:=j.lt;have B:=j.set 24 dE 0;have G:=Qe<|B.bare 1 dn
   have d:QJ q p w ((w2.setCells q 5 Z19).setCell ⟨q,24,none⟩ (.int .i64 0)):=(a7.u.trans QJ.zeros).trans (QJ.set 24 (.int .i64 0) dn);have ⟨v26,c26⟩:∃v,(w2.setCells q 5 Z19).cell? ⟨q,26,none⟩=some v:=by
    obtain ⟨_,v,_,_,_,_,V,_⟩:=j.own;exact ⟨v,V⟩
   have g:=Qe<|d.trans (QJ.bare ((World.cell?_setCell_other _ ⟨q,24,none⟩ ⟨q,26,none⟩ _ dr).trans c26))
   obtain ⟨K,hK⟩:=dt Z19;rw [hK] at n D f R W b c26 G g E;have HK:=Qe hK;have h:=Qe n;have k:=Qe D;have a1:=Qe f;clear n D f hK u j B d I a7;go_wp2_with (refine wpList_store_mid rfl 68 _ _ rfl q 5 K.toArray rfl (by rw [<-HK.u];rfl) h.u k.u a1.u ?_)
   exact bodyPost_ret (v:=.tuple #[.func (Fn.func 178) #[.pointer (some ⟨q,0,none⟩)] #[],.nilIface]) (by simp [results,results149,go_sem]) rfl (Qu.ok rfl G.u g.u)
 ·rw [if_neg M]
  have HN:=Qe<|Vi q p hB zs c.i 5 w hM.c0 hM.rd hzl dn M
  clear hM M;unfold flt at HN;go_enter func149,ntmps149;go_wp2_with fail;refine Calls.mono HN.u ?_;rintro e w1 ⟨rfl,hb⟩;refine jz ?_;intro I al;clear hb HN HM;go_wp2_with fail;exact bodyPost_ret (v:=.tuple #[.nilFunc,flt 2]) nM rfl (Qu.no I.u al.u)
section
variable{q p hB:Nat}{zs:List Int}{rdy:Value}{w:World}{c:LC}
theorem QH.below{w':World}(h:QH q p hB zs rdy w c)(hb:Below w.heap.size w w'):QH q p hB zs rdy w' c:=h.went (h.rd.below hb) (Qk hb (some p))
def cl19(f:Nat->Int):List Int:=(List.range 19).map fun k=>f (5+k)
theorem QbK(f:Nat->Int):(cl19 f).length=19:=by simp [cl19]
theorem QH.row19(h:QH q p hB zs rdy w c):Qv w (some ⟨q,5,none⟩) (cl19 c.f):=by
 intro i hi;rw [QbK] at hi;refine ⟨q,5,rfl,?_⟩;rw [h.num (5+i) dE];simp [cl19,List.getD_eq_getElem?_getD,hi]
theorem QH.tabled{tb:List Int}{t m:Nat}{S:Nat->Nat×Nat}{L:Nat->Nat->Nat×Nat}(h:QH q p hB zs rdy w c)(h1:1<=c.st)(h3:c.st<=3)(hT:QaG tb w t S m L)(hqt:q<t)(hpt:p<t):
  QH q p hB zs rdy (w.setCell ⟨q,25,none⟩ (.pointer (some ⟨t,0,none⟩))) {c with st:=4,tb:=tb}:=by
 have hq:=h.lt;have O:=Qf w ⟨q,25,none⟩ (.pointer (some ⟨t,0,none⟩));have I:∀o,o≠25->(w.setCell ⟨q,25,none⟩ (.pointer (some ⟨t,0,none⟩))).cell? ⟨q,o,none⟩=w.cell? ⟨q,o,none⟩:=fun o ho=>World.cell?_setCell_other _ _ _ _ dB
 obtain ⟨B,v,b1,b2,Z,H,b5,b6,b7,b8⟩:=h.own;obtain ⟨b,ho⟩:=h.c25;have F:=World.cell?_setCell_same w ⟨q,25,none⟩ (.pointer (some ⟨t,0,none⟩)) ho;refine ⟨h.ne,h.neh,h.two,h.rd.grown O eJ eM,(I 0 dk).trans h.c0,?_,?_,⟨_,F⟩,(I 28 dk).trans h.c28,?_,?_,?_,?_⟩
 ·exact fK
 ·exact fQ
 ·exact fM
 ·have V:=b7 h1 h3
  subst V;refine ⟨w.heap.size,.slice none 0 0,dk,dk,dk,O.size,(I 26 dk).trans b5,?_,(fun _ _=>rfl),(fun _=>?_)⟩
  ·obtain ⟨u,x2⟩:=b6
   rcases x2 with ⟨_,x3⟩|⟨g,_,_,x3,_⟩
   ·exact ⟨u,.inl ⟨rfl,x3⟩⟩
   ·cases x3
  ·exact ⟨t,S,m,L,w,F,hT,hqt,hpt,Nat.le_refl _,fun k k1 k2=>O.block k k2 du⟩
 ·exact fN
 ·exact fP
end
def cl1(f:Nat->Int)(F:Nat):Nat->Int:=upd (upd f (5+ord19 (f 24).toNat) (F:Int)) 24 (f 24+1)
def QX(zs:List Int)(c:LC):LC⊕(Int×LC):=
 if c.i+3<=8*zs.length then
  if c.f 24+1<c.f 4 then .inl {c with st:=3,i:=c.i+3,f:=cl1 c.f (field (bnum zs) c.i 3)}
  else if hk (cl19 (cl1 c.f (field (bnum zs) c.i 3)))=1 then .inl {c with st:=4,i:=c.i+3,f:=cl1 c.f (field (bnum zs) c.i 3),tb:=cl19 (cl1 c.f (field (bnum zs) c.i 3))}
  else .inr (3,{c with i:=c.i+3,f:=cl1 c.f (field (bnum zs) c.i 3)})
 else .inr (2,c)
theorem Qfp(k:Nat)(h:k<19):ord19 k<19:=by
 refine nN ?_;intro h3;rcases h3 with rfl|rfl|rfl|rfl|rfl|rfl|rfl|rfl|rfl|rfl|rfl|rfl|rfl|rfl|rfl|rfl|rfl|rfl|rfl<;>decide
theorem Qi7(q p hB:Nat)(zs:List Int)(rdy:Value)(c:LC)(k:Nat)(w:World)(hM:QH q p hB zs rdy w c)(hs:c.st=3)(hk:c.f 24=(k:Int))(hk19:k<19)(hz:Qh zs)(hzl:zs.length<=65536)(r:LC⊕(Int×LC))(hr:QX zs c=r):
  Calls prog 199 #[.pointer (some ⟨q,0,none⟩)] w fun e w'=>Qu q p hB zs rdy r e w w':=by
 have y:=hM.lt;have HM:=Qe hM;have HS:=Qe hs;have HR:=Qe hr;have HK:=Qe hk;clear hs hr hk;by_cases M:c.i+3<=8*zs.length
 ·have HN:=Qe<|Q7 q p hB zs c.i 3 w hM.c0 hM.rd hz hzl dn M
  have Y:=VM (bnum zs) c.i 3 dn;have ad:=Qe M;obtain ⟨F,C⟩:=dt (field (bnum zs) c.i 3);rw [C] at HN Y;have HF:=Qe C;clear hM M C;go_enter func199,ntmps199;go_wp2_with fail;refine Calls.mono HN.u ?_;rintro e w1 ⟨rfl,P,O⟩;have A:=HM.u.went P O;have R:w1.cell? ⟨q,24,none⟩=some (.int .i64 (k:Int)):=by
   rw [A.num 24 dE];show some (Value.int .i64 (c.f 24))=_;rw [HK.u]
  have g1:=A.g1 k hk19;have ho:=Qfp k hk19;have cO:=A.num (5+ord19 k) dE;have fO:=A.free<|5+ord19 k
  generalize Z:ord19 k=o at*;have a8:=Qe Z;have U:=Qe A;have ay:=Qe<|QJ.num HM.u.ne y O
  clear A P O HN HM Z;go_upto_region 4 with fail;go_region
  go_upto_region 5 with fail;have u:=(U.u.set (5+o) dE (F:Int)).below ((Below.refl _ _).drew);have z:QJ q p w (w1.setCell ⟨q,5+o,none⟩ (.int .i64 (F:Int))).drew:=(ay.u.trans (QJ.set (5+o) (.int .i64 (F:Int)) dk)).trans (QJ.below u.lt ((Below.refl _ _).drew));generalize (w1.setCell ⟨q,5+o,none⟩ (.int .i64 (F:Int))).drew=w2 at*;have af:w2.cell? ⟨q,24,none⟩=some (.int .i64 (k:Int)):=by
   rw [u.num 24 dE];show some (Value.int .i64 (upd c.f (5+o) F 24))=_;rw [upd,if_neg dk,HK.u]
  have d4:w2.cell? ⟨q,4,none⟩=some (.int .i64 (c.f 4)):=by
   rw [u.num 4 dE];show some (Value.int .i64 (upd c.f (5+o) F 4))=_;rw [upd,if_neg dk]
  have W:=u.free 24;have j:=(u.set 24 dE ((k:Int)+1)).below ((Below.refl _ _).drew);have l:dm (QJ q p w (w2.setCell ⟨q,24,none⟩ (.int .i64 ((k:Int)+1))).drew):=(z.trans (QJ.set 24 (.int .i64 ((k:Int)+1)) dk)).trans (QJ.below j.lt ((Below.refl _ _).drew));have K:cl1 c.f F=upd (upd c.f (5+o) F) 24 ((k:Int)+1):=by
   unfold cl1;rw [HK.u,Int.toNat_natCast,a8.u]
  have a:dm (QH q p hB zs rdy (w2.setCell ⟨q,24,none⟩ (.int .i64 ((k:Int)+1))).drew {c with i:=c.i+3,f:=cl1 c.f F}):=by
   show QH q p hB zs rdy _ _;rw [K];exact j
  have HC:dm (QX zs c=if (k:Int)+1<c.f 4 then .inl {c with st:=3,i:=c.i+3,f:=cl1 c.f F} else if hk (cl19 (cl1 c.f F))=1 then .inl {c with st:=4,i:=c.i+3,f:=cl1 c.f F,tb:=cl19 (cl1 c.f F)} else .inr (3,{c with i:=c.i+3,f:=cl1 c.f F})):=by
   show _=_;unfold QX;rw [if_pos ad.u,HF.u,HK.u]
  clear u j z K R g1 cO fO U ay a8 ho;generalize c.f 4=n4 at*;go_upto_region 6 with fail;by_cases ab:(k:Int)+1<n4
  ·have HX:dm (r=.inl {c with st:=3,i:=c.i+3,f:=cl1 c.f F}):=by
    show _=_;rw [<-HR.u,HC.u,if_pos ab]
   have D:=Qe<|a.u.at 3 (fun _ _=>by show 1<=c.st/\c.st<=3;rw [HS.u];omega) (fun h=>dk)
   go_region
   go_wp2_with fail;exact bodyPost_ret (v:=.tuple #[.func (Fn.func 199) #[.pointer (some ⟨q,0,none⟩)] #[],.nilIface]) nP rfl (by rw [HX.u];exact Qu.ok rfl D.u l.u)
  ·have HY:dm (r=if hk (cl19 (cl1 c.f F))=1 then .inl {c with st:=4,i:=c.i+3,f:=cl1 c.f F,tb:=cl19 (cl1 c.f F)} else .inr (3,{c with i:=c.i+3,f:=cl1 c.f F})):=by
    show _=_;rw [<-HR.u,HC.u,if_neg ab]
   go_region
   go_upto_region 8 with fail;generalize (w2.setCell ⟨q,24,none⟩ (.int .i64 ((k:Int)+1))).drew=w3 at*;clear af d4 W HC ab;have V:=Qe<|Qec (some ⟨q,5,none⟩) 19 (cl19 (cl1 c.f F)) w3 a.u.row19 (by rw [QbK];decide)
   rw [QbK] at V;have E:=a.u.lt;go_wp2_with fail;refine Calls.mono V.u ?_;rintro e w4 ⟨rfl,T⟩;have B:=a.u.below T;have d:=l.u.trans<|QJ.below E T
   have D:=Qe B;have N:=Qe d;have s:=Qe<|QbW (some ⟨q,5,none⟩) 19 (cl19 (cl1 c.f F)) w4 B.row19 (by rw [QbK];decide)
   rw [QbK] at s;have ax:=B.lt;clear B d V T a l;by_cases au:hk (cl19 (cl1 c.f F))=1
   ·rw [au]
    have HX:dm (r=.inl {c with st:=4,i:=c.i+3,f:=cl1 c.f F,tb:=cl19 (cl1 c.f F)}):=by
     show _=_;rw [HY.u,if_pos au]
    clear HY au;generalize cl19 (cl1 c.f F)=ls at*;go_wp2_with fail;refine Calls.mono s.u ?_;rintro e w5 ⟨⟨Q,bc,rfl,b3⟩,az⟩;have X:=Qe<|Qef ls Q bc w5 b3.reads
    have H:=D.u.below az;have G:=Qe H;have g:=Qe<|N.u.trans (QJ.below ax az)
    have J:=H.lt;clear H s b3 az D N;go_wp2_with fail;refine Calls.mono X.u ?_;rintro e w6 ⟨t,S,m,L,rfl,ht,x,aj⟩;have n:=G.u.below aj;obtain ⟨b,ag⟩:=n.c25;have ai:=n.free 25;have ah:=G.u.rd.lt;have aa:=Qe<|n.tabled (by show 1<=c.st;rw [HS.u];decide) (by show c.st<=3;rw [HS.u];decide) x dk dk
    have ae:=Qe<|(g.u.trans (QJ.below J aj)).trans (QJ.set 25 (.pointer (some ⟨t,0,none⟩)) dn)
    clear n x aj X G g;go_wp2_with fail;exact bodyPost_ret (v:=.tuple #[.func (Fn.func 206) #[.pointer (some ⟨q,0,none⟩)] #[],.nilIface]) nP rfl (by rw [HX.u];exact Qu.ok rfl aa.u ae.u)
   ·have HX:dm (r=.inr (3,{c with i:=c.i+3,f:=cl1 c.f F})):=by
     show _=_;rw [HY.u,if_neg au]
    clear HY s;generalize hk (cl19 (cl1 c.f F))=h at*;have ak:(h != 1)=true:=by simp [au]
    go_wp2_with fail;exact bodyPost_ret (v:=.tuple #[.nilFunc,flt 3]) nQ rfl (by rw [HX.u];exact Qu.no D.u N.u)
 ·have HN:=Qe<|Vi q p hB zs c.i 3 w hM.c0 hM.rd hzl dn M
  have HX:dm (r=.inr (2,c)):=by
   show _=_;rw [<-HR.u,QX,if_neg M]
  clear hM M;unfold flt at HN;go_enter func199,ntmps199;go_wp2_with fail;refine Calls.mono HN.u ?_;rintro e w1 ⟨rfl,hb⟩;have I:=Qe<|HM.u.below hb
  have al:=Qe<|QJ.below (p:=p) y hb
  clear hb HN HM;go_wp2_with fail;exact bodyPost_ret (v:=.tuple #[.nilFunc,flt 2]) nQ rfl (by rw [HX.u];exact Qu.no I.u al.u)
section
theorem nR{P:Prop}(h:P:=by
 go_upto_region 7 with fail;go_wp2_with fail;refine Calls.mono a7.u ?_;rintro e w3 ⟨rfl,r⟩;have z:=Qe<|d.u.trans (r.mono j)
 clear r a7 d;by_cases t:b=1\/b=4\/b=5
 ·have HP:dm C:=aN.u.2 ⟨f.u,HA.u,t⟩
  clear aN HA;rcases t with rfl|rfl|rfl
  ·exact mw
  ·exact mw
  ·exact mw
 ·have HP:dm (¬C):=fun h=>t (aN.u.1 h).2.2
  have b1:(b != 1)=true:=du;have b2:(b != 4)=true:=du;have b5:(b != 5)=true:=du;clear t;go_wp2_with fail;exact bodyPost_ret (v:=flt 3) jA rfl ⟨⟨(fun h=>absurd h HP.u),(fun _=>rfl)⟩,z.u⟩):P:=h
variable{w:World}{g:Nat}{zs:List Int}
theorem Qih(q g n cap l:Nat)(w:World)(h26:w.cell? ⟨q,26,none⟩=some (.slice (some ⟨g,0,none⟩) n cap))(h2:w.cell? ⟨q,2,none⟩=some (.int .i64 (l:Int)))(hl:l<n)(hn:n<=cap)(hb:n<=1000):
  Calls prog 151 #[.pointer (some ⟨q,0,none⟩)] w fun e w'=>e=.returned (.tuple #[.slice (some ⟨g,0,none⟩) l cap,.slice (some ⟨g,l,none⟩) (n-l) (cap-l)])/\Below w.heap.size w w':=by
 have J:((l:Int)<=(n:Int)):=dk;have h3:((l:Int)<=(cap:Int)):=dk;have h4:¬cap=l:=dk;go_enter func151,ntmps151;go_upto_region 1 with fail;go_region
 go_wp2_with fail;exact bodyPost_ret (v:=.tuple #[.slice (some ⟨g,0,none⟩) l cap,.slice (some ⟨g,l,none⟩) (n-l) (cap-l)]) (by simp [results,results151,go_sem]) rfl ⟨rfl,(Below.refl _ _).drew⟩
abbrev chk(ls ds:List Int):Prop:=ls.getD 256 0≠0/\(hk ls=1\/hk ls=4)/\(hk ds=1\/hk ds=4\/hk ds=5)
theorem Qv.takeN(h:Qv w (some ⟨g,0,none⟩) zs)(l:Nat):Qv w (some ⟨g,0,none⟩) (zs.take l):=by
 intro i hi;rw [List.length_take] at hi;obtain ⟨b,U,e,I⟩:=h i dk;refine ⟨b,U,e,?_⟩;rw [I,List.getD_eq_getElem?_getD,List.getD_eq_getElem?_getD,List.getElem?_take_of_lt dk]
theorem Qv.dropN(h:Qv w (some ⟨g,0,none⟩) zs)(l:Nat):Qv w (some ⟨g,l,none⟩) (zs.drop l):=by
 intro i hi;rw [List.length_drop] at hi;obtain ⟨b,U,e,I⟩:=h (l+i) dk;cases e
 refine ⟨g,l,rfl,?_⟩;rw [show l+i=0+(l+i) from dk,I,List.getD_eq_getElem?_getD,List.getD_eq_getElem?_getD,List.getElem?_drop]
theorem Qgh(q g cap l:Nat)(zs:List Int)(w:World)(h26:w.cell? ⟨q,26,none⟩=some (.slice (some ⟨g,0,none⟩) zs.length cap))(h2:w.cell? ⟨q,2,none⟩=some (.int .i64 (l:Int)))(hl:l<zs.length)(hn:zs.length<=cap)(hb:zs.length<=1000)(hrow:Qv w (some ⟨g,0,none⟩) zs)(h257:257<=l):
  Calls prog 215 #[.pointer (some ⟨q,0,none⟩)] w fun e w'=>((chk (zs.take l) (zs.drop l)->e=.returned .nilIface)/\(¬chk (zs.take l) (zs.drop l)->e=.returned (flt 3)))/\Below w.heap.size w w':=by
 have V:=Qe<|Qih q g zs.length cap l w h26 h2 hl hn hb
 obtain ⟨x,hx⟩:=dt ((zs.take l).getD 256 0);obtain ⟨bb,k,s,a5⟩:=hrow.takeN l 256 dS;cases s
 rw [hx,show 0+256=256 from rfl] at a5;have ad:g<w.heap.size:=World.block_lt_of_cell? w _ a5;have ab:(zs.take l).length=l:=dS;have O:(zs.drop l).length=zs.length-l:=List.length_drop;have bm:=Qe (fun (W:World) (hb:Below w.heap.size w W)=>Qec (some ⟨g,0,none⟩) cap (zs.take l) W ((hrow.below hb).takeN l) dk);have R:=Qe (fun (W:World) (hb:Below w.heap.size w W)=>Qec (some ⟨g,l,none⟩) (cap-l) (zs.drop l) W ((hrow.below hb).dropN l) dk);rw [ab] at bm;rw [O] at R;have aN:dm (chk (zs.take l) (zs.drop l)↔x≠0/\(hk (zs.take l)=1\/hk (zs.take l)=4)/\(hk (zs.drop l)=1\/hk (zs.drop l)=4\/hk (zs.drop l)=5)):=by
  show _↔_;unfold chk;rw [hx]
 generalize chk (zs.take l) (zs.drop l)=C at*;generalize hk (zs.take l)=a at*;generalize hk (zs.drop l)=b at*;generalize zs.length=n at*;clear hx ab O hrow;have i:(256:Int)<(l:Int):=dk;go_enter func215,ntmps215;go_wp2_with fail;refine Calls.mono V.u ?_;rintro e w1 ⟨rfl,aj⟩;have c:=(aj.cell (p:=⟨g,256,none⟩) ad).trans a5;have L:=aj.size;have o:=Qe aj;have ba:=Qe<|bm.u w1 aj
 clear aj V bm a5 h26 h2;by_cases a4:x=0
 ·have aM:(x == 0)=true:=by simp [a4]
  have HP:dm (¬C):=fun h=>(aN.u.1 h).1 a4
  clear a4;go_wp2_with fail;exact bodyPost_ret (v:=flt 3) jA rfl ⟨⟨(fun h=>absurd h HP.u),(fun _=>rfl)⟩,o.u⟩
 ·have aM:(x == 0)=false:=by simp [a4]
  have f:=Qe a4;clear a4;go_upto_region 4 with fail;go_wp2_with fail;refine Calls.mono ba.u ?_;rintro e w2 ⟨rfl,ah⟩;have ae:=o.u.trans<|ah.mono L
  have d:=Qe ae;have j:=ae.size;have a7:=Qe<|R.u w2 ae
  clear ah ae ba R o c;by_cases ha:a=1\/a=4
  ·have HA:=Qe ha
   rcases ha with rfl|rfl
   ·exact nR
   ·exact nR
  ·have HP:dm (¬C):=fun h=>ha (aN.u.1 h).2.1
   have a1:(a != 1)=true:=du;have a2:(a != 4)=true:=du;clear ha;go_wp2_with fail;exact bodyPost_ret (v:=flt 3) jA rfl ⟨⟨(fun h=>absurd h HP.u),(fun _=>rfl)⟩,d.u⟩
end
section
variable{w w':World}{p m q hB:Nat}{S:Nat->Nat×Nat}{L:Nat->Nat->Nat×Nat}{zs:List Int}{rdy:Value}{c:LC}
theorem Qaz.same{g o n:Nat}{F:Nat->Nat×Nat}(h:Qaz w g o n F)(hb:w'.heap[g]?=w.heap[g]?)(hs:w.heap.size<=w'.heap.size):Qaz w' g o n F:=by
 refine ⟨Nat.lt_of_lt_of_le h.lt hs,fun i hi=>?_,fun i hi=>?_,fun k=>?_⟩
 ·rw [World.cell?_of_block (w:=w) (a:=⟨g,o+i*2,none⟩) hb];exact h.at0 i hi
 ·rw [World.cell?_of_block (w:=w) (a:=⟨g,o+i*2+1,none⟩) hb];exact h.at1 i hi
 ·rw [World.frozen?_of_block (w:=w) (a:=⟨g,k,none⟩) hb];exact h.free k
theorem Tab.same(h:Tab w p S m L)(hb:∀k,p<=k->k<w.heap.size->w'.heap[k]?=w.heap[k]?)(hs:w.heap.size<=w'.heap.size):Tab w' p S m L:=by
 obtain ⟨J,lo,c,xs,h2,h3,h4⟩:=h;refine ⟨J.same (hb p (Nat.le_refl _) J.lt) hs,lo,c,xs,?_,?_,fun j hj=>?_⟩
 ·rw [World.cell?_of_block (w:=w) (a:=⟨p,1024,none⟩) (hb p (Nat.le_refl _) J.lt)];exact h2
 ·obtain ⟨u,x2⟩:=h3
  refine ⟨u,?_⟩;rcases x2 with x2|⟨g,G,M,F,y2,y3,y4⟩
  ·exact .inl x2
  ·refine .inr ⟨g,G,M,F,y2,?_,y4⟩
   have O:g<w.heap.size:=by
    rcases Nat.lt_or_ge g w.heap.size with h|h
    ·exact h
    ·rw [Array.getElem?_eq_none h] at y3;cases y3
   rw [hb g dk O];exact y3
 ·obtain ⟨g,e,U,h6⟩:=h4 j hj
  exact ⟨g,e,U,h6.same (hb g dk h6.lt) hs⟩
theorem QaG.same{ls:List Int}{t:Nat}(h:QaG ls w t S m L)(hb:∀k,t<=k->k<w.heap.size->w'.heap[k]?=w.heap[k]?)(hs:w.heap.size<=w'.heap.size):QaG ls w' t S m L:={h with tab:=h.tab.same hb hs}
def addS(c:LC)(v:Int)(t:Nat):LC⊕(Int×LC):=
 if (t:Int) > c.f 2+c.f 3-(c.lens.length:Nat) then .inr (3,c)
 else if (t:Int)<c.f 2+c.f 3-(c.lens.length:Nat) then .inl {c with st:=4,lens:=c.lens++List.replicate t v}
 else if chk ((c.lens++List.replicate t v).take (c.f 2).toNat) ((c.lens++List.replicate t v).drop (c.f 2).toNat) then .inl {c with st:=6,lens:=c.lens++List.replicate t v}
 else .inr (3,{c with lens:=c.lens++List.replicate t v})
structure QfY(c:LC):Prop where
 st:4<=c.st
 l1:257<=c.f 2
 l2:c.f 2<=286
 d1:1<=c.f 3
 d2:c.f 3<=30
 n:(c.lens.length:Int)<c.f 2+c.f 3
def Vq(zs:List Int)(c:LC)(n:Nat):LC⊕(Int×LC):=
 if (nx3 c.tb (field (bnum zs) c.i n) n).1=1 then
  if (nx3 c.tb (field (bnum zs) c.i n) n).2.1<16 then addS {c with i:=c.i+(nx3 c.tb (field (bnum zs) c.i n) n).2.2} ((nx3 c.tb (field (bnum zs) c.i n) n).2.1:Nat) 1
  else if (nx3 c.tb (field (bnum zs) c.i n) n).2.1=16/\c.lens.length=0 then .inr (3,{c with i:=c.i+(nx3 c.tb (field (bnum zs) c.i n) n).2.2})
  else .inl {c with st:=5,i:=c.i+(nx3 c.tb (field (bnum zs) c.i n) n).2.2,f:=upd c.f 27 ((nx3 c.tb (field (bnum zs) c.i n) n).2.1:Nat)}
 else if (nx3 c.tb (field (bnum zs) c.i n) n).1=2 then .inr (2,c)
 else .inr (3,c)
def Qjn(q p hB:Nat)(zs:List Int)(rdy:Value):Prop:=∀(c:LC) (v:Int) (t:Nat) (w:World),QH q p hB zs rdy w c->QfY c->1<=t->t<=138->
 Calls prog 210 #[.pointer (some ⟨q,0,none⟩),.int .i64 v,.int .i64 (t:Nat)] w fun e w'=>Qu q p hB zs rdy (addS c v t) e w w'
theorem QH.slice(h:QH q p hB zs rdy w c):∃lo cap,w.cell? ⟨q,26,none⟩=some (.slice lo c.lens.length cap):=by
 obtain ⟨B,v,b1,b2,Z,H,b5,b6,b7,b8⟩:=h.own;obtain ⟨_,x⟩:=b6;rcases x with ⟨e,x⟩|⟨g,cap,M,e,_⟩
 ·exact ⟨none,0,by rw [b5,e,x]⟩
 ·exact ⟨_,cap,by rw [b5,e]⟩
theorem QH.tab(h:QH q p hB zs rdy w c)(hs:4<=c.st):∃t S m L,w.cell? ⟨q,25,none⟩=some (.pointer (some ⟨t,0,none⟩))/\QaG c.tb w t S m L:=by
 obtain ⟨B,v,b1,b2,Z,H,b5,b6,b7,b8⟩:=h.own;obtain ⟨t,S,m,L,w0,J,h2,h3,h4,U,h6⟩:=b8 hs;exact ⟨t,S,m,L,J,h2.same h6 dk⟩
end
theorem Qbi(ls:List Int)(b n:Nat):(nx3 ls b n).1=0\/(nx3 ls b n).1=1\/(nx3 ls b n).1=2:=by
 exact (Qhy ls b n).kinds
theorem QJ.set27{q p:Nat}{w:World}(v:Value):QJ q p w (w.setCell ⟨q,27,none⟩ v):=by
 have I:∀o,o≠27->(w.setCell ⟨q,27,none⟩ v).cell? ⟨q,o,none⟩=w.cell? ⟨q,o,none⟩:=fun o ho=>World.cell?_setCell_other _ _ _ _ dB
 have O:=Qf w ⟨q,27,none⟩ v;exact jy
theorem Qik(q p hB:Nat)(zs:List Int)(rdy:Value)(c:LC)(n:Nat)(w:World)(hM:QH q p hB zs rdy w c)(hI:QfY c)(hA:Qjn q p hB zs rdy)(hz:Qh zs)(hzl:zs.length<=65536)(hn:Nat.min (8*zs.length-c.i) 15=n)(r:LC⊕(Int×LC))(hr:Vq zs c n=r):
  Calls prog 206 #[.pointer (some ⟨q,0,none⟩)] w fun e w'=>Qu q p hB zs rdy r e w w':=by
 have y:=hM.lt;obtain ⟨t,S,m,L,F,hT⟩:=hM.tab hI.st;have a:=hM.below<|(Below.refl _ _).drew
 have aq:=Qe<|Qdi q p hB t m S L c.tb zs c.i n w.drew a.c0 hM.ne a.rd (hT.below ((Below.refl _ _).drew)) hz hzl hn
 unfold Vq at hr;have Q:=Qbi c.tb (field (bnum zs) c.i n) n;rcases hx:nx3 c.tb (field (bnum zs) c.i n) n with ⟨k,s,l⟩;rw [hx] at aq hr Q;have M:dm (k=0\/k=1\/k=2):=Q;clear Q;simp only at hr;have HR:=Qe hr;have HM:=Qe hM;have P:=Qe hI;have O:=Qe hA;clear hr hM hI hA a hx hT;by_cases au:k=1
 ·subst au
  have x:dm ((if s<16 then addS {c with i:=c.i+l} (s:Nat) 1 else if s=16/\c.lens.length=0 then .inr (3,{c with i:=c.i+l}) else .inl {c with st:=5,i:=c.i+l,f:=upd c.f 27 (s:Nat)})=r):=by
   have h:=HR.u;rw [if_pos rfl] at h;exact h
  have A:dm (Calls prog 180 #[.pointer (some ⟨q,0,none⟩),.pointer (some ⟨t,0,none⟩)] w.drew fun e w'=>e=.returned (.tuple #[.int .i64 (s:Nat),.nilIface])/\Rd w' p hB zs (c.i+l)/\w.drew.grownBy w' (some p)):=Calls.mono aq.u (fun e w' h=>h.1 rfl);clear HR aq;go_enter func206,ntmps206;go_upto_region 1 with fail;go_region_held3 (fun w'=>w'.cell? ⟨q,25,none⟩=some (.pointer (some ⟨t,0,none⟩)))
   (first|(with_reducible assumption)|(go_keep;done))
   ((go_at_call 180;refine Calls.mono A.u ?_;rintro e w2 ⟨rfl,J,ag⟩;have g:=ag.cell (show w.drew.cell? ⟨q,25,none⟩=some (.pointer (some ⟨t,0,none⟩)) from F) (by have:=HM.u.ne;simpa using this)))
  refine fR ?_;intro hd;refine gP ?_;intro a u z;have aw:QfY {c with i:=c.i+l}:=⟨P.u.st,P.u.l1,P.u.l2,P.u.d1,P.u.d2,P.u.n⟩;have I:=Qe u;have al:=Qe z;obtain ⟨lo,G,T⟩:=u.slice;have U:=u.num 27 dE;have X:=u.free 27;have B:dm (Calls prog 210 #[.pointer (some ⟨q,0,none⟩),.int .i64 (s:Nat),.int .i64 1] w2 fun e w'=>Qu q p hB zs rdy (addS {c with i:=c.i+l} (s:Nat) 1) e w2 w'):=O.u {c with i:=c.i+l} (s:Nat) 1 w2 u aw dn dn;clear u z aw a hd J ag g F A O HM;by_cases E:s<16
  ·have C:decide ((s:Int)<16)=true:=decide_eq_true dk
   have HX:dm (r=addS {c with i:=c.i+l} (s:Nat) 1):=by
    show _=_;rw [<-x.u,if_pos E]
   clear x;generalize addS {c with i:=c.i+l} (s:Nat) 1=r1 at*;go_upto_region 5 with fail;go_wp2_with fail;refine Calls.mono B.u ?_;rintro e w3 hP;rcases r1 with c'|⟨K,b⟩
   ·obtain ⟨rfl,j,o⟩:=hP.1 c' rfl
    have HF:dm (Qu q p hB zs rdy r (.returned (.tuple #[lnow q rdy c'.st,.nilIface])) w w3):=by
     show Qu _ _ _ _ _ _ _ _ _;rw [HX.u];exact Qu.ok rfl j (al.u.trans o)
    clear hP j o HX B;generalize lnow q rdy c'.st=V at*;go_wp2_with fail;exact bodyPost_ret (v:=.tuple #[V,.nilIface]) jB rfl HF.u
   ·obtain ⟨V,rfl,j,o⟩:=hP.2 K b rfl
    have HF:dm (Qu q p hB zs rdy r (.returned (.tuple #[V,flt K])) w w3):=by
     show Qu _ _ _ _ _ _ _ _ _;rw [HX.u];exact Qu.no j (al.u.trans o)
    clear hP j o HX B;generalize flt K=V2 at*;go_wp2_with fail;exact bodyPost_ret (v:=.tuple #[V,V2]) jB rfl HF.u
  ·have C:decide ((s:Int)<16)=false:=decide_eq_false dk
   clear B;by_cases R:s=16/\c.lens.length=0
   ·obtain ⟨rfl,H⟩:=R
    have HF:dm (Qu q p hB zs rdy r (.returned (.tuple #[.nilFunc,flt 3])) w w2):=by
     show Qu _ _ _ _ _ _ _ _ _;rw [<-x.u,if_neg E,if_pos ⟨rfl,H⟩];exact Qu.no I.u al.u
    rw [show ({c with i:=c.i+l}:LC).lens.length=0 from H] at T;clear x E;go_wp2_with fail;exact bodyPost_ret (v:=.tuple #[.nilFunc,flt 3]) nS rfl HF.u
   ·have j:=(I.u.set 27 dE (s:Int)).at 5 (fun _ h=>dk) (fun _=>P.u.st)
    have o:=al.u.trans<|QJ.set27 (q:=q) (p:=p) (w:=w2) (.int .i64 (s:Int))
    have HF:dm (Qu q p hB zs rdy r (.returned (.tuple #[.func (Fn.func 211) #[.pointer (some ⟨q,0,none⟩)] #[],.nilIface])) w (w2.setCell ⟨q,27,none⟩ (.int .i64 (s:Int)))):=by
     show Qu _ _ _ _ _ _ _ _ _;rw [<-x.u,if_neg E,if_neg R];exact Qu.ok rfl j o
    clear x j o;generalize c.lens.length=N at*;by_cases D:s=16
    ·subst D
     have hN:¬N=0:=fun h=>R ⟨rfl,h⟩
     have bS:((N:Int) == 0)=false:=du;exact nT
    ·have W:((s:Int) == 16)=false:=du
     exact nT
 ·have Z:∃d:Int,dm (r=.inr (d,c))/\dm (Calls prog 180 #[.pointer (some ⟨q,0,none⟩),.pointer (some ⟨t,0,none⟩)] w.drew fun e w'=>e=.returned (.tuple #[.int .i64 0,flt d])/\Below w.drew.heap.size w.drew w'):=by
   rcases M.u with rfl|rfl|rfl
   ·exact ⟨3,(HR.u.symm:r=_),Calls.mono aq.u (fun e w' h=>h.2.2 rfl)⟩
   ·exact absurd rfl au
   ·exact ⟨2,(HR.u.symm:r=_),Calls.mono aq.u (fun e w' h=>h.2.1 rfl)⟩
  obtain ⟨d,HX,A⟩:=Z;clear HR aq M O au;unfold flt at A;go_enter func206,ntmps206;go_upto_region 1 with fail;go_region_held3 (fun w'=>w'.cell? ⟨q,25,none⟩=some (.pointer (some ⟨t,0,none⟩)))
   (first|(with_reducible assumption)|(go_keep;done))
   ((go_at_call 180;refine Calls.mono A.u ?_;rintro e w2 ⟨rfl,ah⟩;have g:=(ah.cell (p:=⟨q,25,none⟩) y).trans (show w.drew.cell? ⟨q,25,none⟩=some (.pointer (some ⟨t,0,none⟩)) from F)))
  have ae:Below w.heap.size w w2:=((Below.refl _ _).drew).trans ah;have HF:dm (Qu q p hB zs rdy r (.returned (.tuple #[.nilFunc,flt d])) w w2):=by
   show Qu _ _ _ _ _ _ _ _ _;rw [HX.u];exact Qu.no (HM.u.below ae) (QJ.below y ae)
  clear ah ae HX A g;go_wp2_with fail;exact bodyPost_ret (v:=.tuple #[.nilFunc,flt d]) nS rfl HF.u
end Go.Proofs.YtgginbpmebgkcaaGreatDoor
