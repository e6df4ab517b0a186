import Derived.Test.YtgginbpmebgkcaaGreatDoorMAE
import Derived.Test.YtgginbpmebgkcaaGreatDoorMAN
import Derived.Test.YtgginbpmebgkcaaGreatDoorMAQ
namespace Go.Proofs.YtgginbpmebgkcaaGreatDoor
open Go.RowKit Go.Proofs.Tryz
set_option linter.unusedVariables false
set_option maxRecDepth 100000
set_option maxHeartbeats 25600000
section
variable{zs:List Int}{cf c:LC}{k L:Int}
def QjT(zs:List Int):Nat->LC->Int->LC->Prop
 | 0,_,_,_=>False
 | n+1,c,k,cf=>(¬c.st<=5/\k=1/\cf=c)\/(c.st<=5/\Qx zs c=.inr (k,cf))\/(c.st<=5/\∃c',Qx zs c=.inl c'/\QjT zs n c' k cf)
def Vy(zs:List Int)(c:LC)(k:Int)(cf:LC):Prop:=∃n,QjT zs n c k cf
theorem Vy.fin(h:¬c.st<=5):Vy zs c 1 c:=⟨1,.inl ⟨h,rfl,rfl⟩⟩
theorem Vy.bad(h:c.st<=5)(hs:Qx zs c=.inr (k,cf)):Vy zs c k cf:=⟨1,.inr (.inl ⟨h,hs⟩)⟩
theorem Vy.more{c':LC}(h:c.st<=5)(hs:Qx zs c=.inl c')(h2:Vy zs c' k cf):Vy zs c k cf:=jw
theorem Vy.cut(h:Vy zs c k cf):(¬c.st<=5/\k=1/\cf=c)\/(c.st<=5/\Qx zs c=.inr (k,cf))\/(c.st<=5/\∃c',Qx zs c=.inl c'/\Vy zs c' k cf):=n7
theorem Vy.ex:∀(n:Nat) (c:LC),QQ c->lmu c<n->∃k cf,Vy zs c k cf:=by
 intro n;induction n with
 | zero=>intro c _ h;omega
 | succ n ih=>
  intro c A M;by_cases U:c.st<=5
  ·cases hs:Qx zs c with
   | inl c'=>
    obtain ⟨k,cf,h⟩:=ih c' (VY A U hs) (by have:=Qiy A U hs;omega);exact ⟨k,cf,.more U hs h⟩
   | inr x=>exact ⟨x.1,x.2,.bad U hs⟩
  ·exact ⟨1,c,.fin U⟩
theorem Qll{v:Int}{t:Nat}(hs:addS c v t=.inr (k,cf)):k=2\/k=3:=n8
theorem Qbj(hs:Qx zs c=.inr (k,cf)):k=2\/k=3:=by
 unfold Qx at hs;split at hs
 ·unfold QS at hs
  repeat' (split at hs)
  all_goals first|(cases hs;done)|(injection hs with e;injection e with e1 e2;omega)
 ·split at hs
  ·unfold QF at hs
   repeat' (split at hs)
   all_goals first|(cases hs;done)|(injection hs with e;injection e with e1 e2;omega)
  ·split at hs
   ·unfold QE at hs
    repeat' (split at hs)
    all_goals first|(cases hs;done)|(injection hs with e;injection e with e1 e2;omega)
   ·split at hs
    ·unfold QX at hs
     repeat' (split at hs)
     all_goals first|(cases hs;done)|(injection hs with e;injection e with e1 e2;omega)
    ·split at hs
     ·unfold Vq at hs
      repeat' (split at hs)
      all_goals first|exact Qll hs|(cases hs;done)|(injection hs with e;injection e with e1 e2;omega)
     ·unfold Vs at hs
      repeat' (split at hs)
      all_goals first|exact Qll hs|(cases hs;done)|(injection hs with e;injection e with e1 e2;omega)
theorem Vy.good(h:Vy zs c k cf):QQ c->(k=1/\QQ cf/\cf.st=6)\/k≠1:=by
 obtain ⟨n,M⟩:=h;induction n generalizing c with
 | zero=>exact M.elim
 | succ n ih=>
  intro A;rcases M with ⟨J,rfl,rfl⟩|⟨J,E⟩|⟨J,c',E,h3⟩
  ·have:=A.s6
   exact .inl ⟨rfl,A,dk⟩
  ·right
   intro hk;exact gR
  ·exact ih h3 (VY A J E)
abbrev RR:=Nat×Int
def tk(zs:List Int)(r:RR)(n:Nat):RR×Nat:=if r.2=0 then (if r.1+n<=8*zs.length then ((r.1+n,0),field (bnum zs) r.1 n) else ((r.1,2),0)) else (r,0)
def VJ(r:RR)(p:Bool):RR:=if r.2=0/\p=true then (r.1,3) else r
def lkn(zs:List Int)(i:Nat):Nat:=Nat.min (8*zs.length-i) 15
def sy(zs:List Int)(r:RR)(tb:List Int):RR×Nat:=
 if r.2=0 then ((r.1+(nx3 tb (field (bnum zs) r.1 (lkn zs r.1)) (lkn zs r.1)).2.2,if (nx3 tb (field (bnum zs) r.1 (lkn zs r.1)) (lkn zs r.1)).1=2 then 2 else if (nx3 tb (field (bnum zs) r.1 (lkn zs r.1)) (lkn zs r.1)).1=0 then 3 else 0),(nx3 tb (field (bnum zs) r.1 (lkn zs r.1)) (lkn zs r.1)).2.1)
 else (r,0)
def ups(r:RR)(all:List Int)(v:Int)(t:Nat):List Int:=if r.2=0 then all++List.replicate t v else all
def rpt(zs:List Int)(r:RR)(all:List Int)(x:Nat):RR×List Int:=
 if x=16 then ((tk zs (VJ r (decide (all.length=0))) 2).1,ups (tk zs (VJ r (decide (all.length=0))) 2).1 all (all.getD (all.length-1) 0) ((tk zs (VJ r (decide (all.length=0))) 2).2+3))
 else if x=17 then ((tk zs r 3).1,ups (tk zs r 3).1 all 0 ((tk zs r 3).2+3))
 else if x=18 then ((tk zs r 7).1,ups (tk zs r 7).1 all 0 ((tk zs r 7).2+11))
 else (r,ups r all (x:Nat) 1)
def rnd(zs tb:List Int)(N:Nat)(r:RR)(all:List Int):RR×List Int:=
 if (sy zs r tb).1.2=0 then (VJ (rpt zs (sy zs r tb).1 all (sy zs r tb).2).1 (decide (N<(rpt zs (sy zs r tb).1 all (sy zs r tb).2).2.length)),(rpt zs (sy zs r tb).1 all (sy zs r tb).2).2)
 else ((sy zs r tb).1,all)
structure At(zs:List Int)(k:Int)(cf:LC)(s:Nat)(r:RR)(P:LC->Prop):Prop where
 no:r.2≠0->r.2=k/\k≠1
 yes:r.2=0->∃c,c.st=s/\c.i=r.1/\QQ c/\Vy zs c k cf/\P c
theorem QaD{r:RR}{n:Nat}(h:r.2≠0):tk zs r n=(r,0):=by unfold tk;rw [if_neg h]
theorem VH{r:RR}{p:Bool}(h:r.2≠0):VJ r p=r:=by unfold VJ;rw [if_neg (fun x=>h x.1)]
theorem Vy.step(h:Vy zs c k cf)(h5:c.st<=5):(∃c',Qx zs c=.inl c'/\Vy zs c' k cf)\/Qx zs c=.inr (k,cf):=by
 rcases h.cut with ⟨J,_⟩|⟨_,E⟩|⟨_,c',E,h2⟩
 ·exact absurd h5 J
 ·exact .inr E
 ·exact .inl ⟨c',E,h2⟩
theorem Qbh(zs:List Int)(c:LC)(s:Nat)(hs:c.st=s):Qx zs c=if s=0 then QS zs c else if s=1 then QF zs c else if s=2 then QE zs c else if s=3 then QX zs c else if s=4 then Vq zs c (Nat.min (8*zs.length-c.i) 15) else Vs zs c:=by
 subst hs;rfl
def cl0(c:LC):Prop:=∀j,5<=j->j<=23->c.f j=0
theorem QqM{r:RR}{P:LC->Prop}(h:At zs k cf 0 r P):
  At zs k cf 1 (VJ (tk zs r 5).1 (decide (286<((tk zs r 5).2:Int)+257))) (fun c=>c.f 2=((tk zs r 5).2:Int)+257/\cl0 c):=by
 by_cases H:r.2=0
 ·obtain ⟨c,J,h2,h3,h4,_⟩:=h.yes H
  have d:=h4.step dk;rw [Qbh zs c 0 J,if_pos rfl] at d;unfold QS at d;rw [h2] at d;unfold tk;rw [if_pos H];by_cases hb:r.1+5<=8*zs.length
  ·rw [if_pos hb] at d ⊢
   by_cases O:((field (bnum zs) r.1 5:Nat):Int)+257 > 286
   ·exact od
   ·rw [if_neg O] at d
    have s:VJ (r.1+5,0) (decide (286<((field (bnum zs) r.1 5:Nat):Int)+257))=(r.1+5,0):=by
     unfold VJ;rw [if_neg (fun x=>O (of_decide_eq_true x.2))]
    dsimp only;rw [s];rcases d with ⟨c',e,U⟩|e
    ·injection e with e
     subst e;refine ⟨fun h=>absurd rfl h,fun _=>⟨_,rfl,rfl,?_,U,?_,?_⟩⟩
     ·refine QiQ (zs:=zs) h3 ?_
      unfold QS;rw [h2,if_pos hb,if_neg O]
     ·simp [upd,clr]
     ·intro j l m
      simp only [upd,clr];rw [if_neg dk,if_pos ⟨l,m⟩]
    ·cases e
  ·exact oe
 ·rw [QaD H,VH H]
  exact jI
theorem QoF{r:RR}(h:At zs k cf 1 r (fun c=>c.f 2=L/\cl0 c)):
  At zs k cf 2 (VJ (tk zs r 5).1 (decide (30<((tk zs r 5).2:Int)+1))) (fun c=>c.f 2=L/\c.f 3=((tk zs r 5).2:Int)+1/\cl0 c):=by
 by_cases H:r.2=0
 ·obtain ⟨c,J,h2,h3,h4,h6,h7⟩:=h.yes H
  have d:=h4.step dk;rw [Qbh zs c 1 J,if_neg dn,if_pos rfl] at d;unfold QF at d;rw [h2] at d;unfold tk;rw [if_pos H];by_cases hb:r.1+5<=8*zs.length
  ·rw [if_pos hb] at d ⊢
   by_cases O:((field (bnum zs) r.1 5:Nat):Int)+1 > 30
   ·exact od
   ·rw [if_neg O] at d
    have s:VJ (r.1+5,0) (decide (30<((field (bnum zs) r.1 5:Nat):Int)+1))=(r.1+5,0):=by
     unfold VJ;rw [if_neg (fun x=>O (of_decide_eq_true x.2))]
    dsimp only;rw [s];rcases d with ⟨c',e,U⟩|e
    ·injection e with e
     subst e;refine ⟨fun h=>absurd rfl h,fun _=>⟨_,rfl,rfl,?_,U,?_,?_,?_⟩⟩
     ·refine QgY (zs:=zs) h3 J ?_
      unfold QF;rw [h2,if_pos hb,if_neg O]
     ·simpa [upd] using h6
     ·simp [upd]
     ·intro j l m
      simp only [upd];rw [if_neg dk];exact h7 j l m
    ·cases e
  ·exact oe
 ·rw [QaD H,VH H]
  exact jI
theorem Qmf(h:cl0 c):cl19 c.f=List.replicate 19 0:=by
 refine List.ext_getElem (by simp [cl19]) ?_;intro j J h2;have h3:j<19:=by simpa [cl19] using J
 simp only [cl19,List.getElem_map,List.getElem_range,List.getElem_replicate];exact h (5+j) dk dk
theorem Qpo{r:RR}{D:Int}(h:At zs k cf 2 r (fun c=>c.f 2=L/\c.f 3=D/\cl0 c)):
  At zs k cf 3 (tk zs r 4).1 (fun c=>c.f 2=L/\c.f 3=D/\c.f 4=((tk zs r 4).2:Int)+4/\c.f 24=0/\cl19 c.f=List.replicate 19 0):=by
 by_cases H:r.2=0
 ·obtain ⟨c,J,h2,h3,h4,h6,h7,h8⟩:=h.yes H
  have d:=h4.step dk;rw [Qbh zs c 2 J,if_neg dn,if_neg dn,if_pos rfl] at d;unfold QE at d;rw [h2] at d;unfold tk;rw [if_pos H];by_cases hb:r.1+4<=8*zs.length
  ·rw [if_pos hb] at d ⊢
   rcases d with ⟨c',e,U⟩|e
   ·injection e with e
    subst e;refine ⟨fun h=>absurd rfl h,fun _=>⟨_,rfl,rfl,?_,U,?_,?_,?_,?_,?_⟩⟩
    ·refine QgX (zs:=zs) h3 J ?_
     unfold QE;rw [h2,if_pos hb]
    ·simpa [upd] using h6
    ·simpa [upd] using h7
    ·simp [upd]
    ·simpa [upd] using h3.zero dk dk
    ·refine Qmf ?_
     intro j l m;simp only [upd];rw [if_neg dk];exact h8 j l m
   ·cases e
  ·rw [if_neg hb] at d ⊢
   rcases d with ⟨c',e,_⟩|e
   ·cases e
   ·exact og
 ·rw [QaD H]
  exact jI
end
section
variable{zs tb all:List Int}{k L D:Int}{cf:LC}{r:RR}
theorem QnU(f:Nat->Int)(F:Nat)(h:(f 24).toNat<19):cl19 (cl1 f F)=(cl19 f).set (ord19 (f 24).toNat) (F:Int):=by
 refine List.ext_getElem (by simp [cl19]) ?_;intro j J h2;simp [cl19] at J;rw [List.getElem_set];simp only [cl19,List.getElem_map,List.getElem_range,cl1,upd];rw [if_neg dk];by_cases e:ord19 (f 24).toNat=j
 ·rw [if_pos dk,if_pos e]
 ·rw [if_neg dk,if_neg e]
theorem Qqd{m j:Nat}{small:List Int}(h:At zs k cf 3 r (fun c=>c.f 2=L/\c.f 3=D/\c.f 4=(m:Int)/\c.f 24=(j:Int)/\cl19 c.f=small))(hj:j<m)(hm:m<=19):
  (j+1<m->At zs k cf 3 (tk zs r 3).1 (fun c=>c.f 2=L/\c.f 3=D/\c.f 4=(m:Int)/\c.f 24=((j+1:Nat):Int)/\cl19 c.f=small.set (ord19 j) ((tk zs r 3).2:Int)))/\
  (j+1=m->At zs k cf 4 (VJ (tk zs r 3).1 (decide (hk (small.set (ord19 j) ((tk zs r 3).2:Int))≠1))) (fun c=>c.f 2=L/\c.f 3=D/\c.tb=small.set (ord19 j) ((tk zs r 3).2:Int)/\c.lens=[])):=by
 by_cases H:r.2=0
 ·obtain ⟨c,J,h2,h3,h4,h6,h7,h8,h9,u⟩:=h.yes H
  have d:=h4.step dk;have A:=h3;rw [Qbh zs c 3 J,if_neg dn,if_neg dn,if_neg dn,if_pos rfl] at d;have a:∀c',QX zs c=.inl c'->QQ c':=fun c' e=>Qd5 A J e
  unfold QX at d a;rw [h2,h8,h9] at d a;have g:(c.f 24).toNat=j:=dk;have Z:=fun F=>QnU c.f F dk
  rw [g,u] at Z;simp only [Z] at d a;have Y:∀F,cl1 c.f F 2=L:=fun F=>by rw [QaR _ _ _ dk dk];exact h6
  have K:∀F,cl1 c.f F 3=D:=fun F=>by rw [QaR _ _ _ dk dk];exact h7
  have G:∀F,cl1 c.f F 4=(m:Int):=fun F=>by rw [QaR _ _ _ dk dk];exact h8
  have b:∀F,cl1 c.f F 24=((j+1:Nat):Int):=fun F=>by rw [QjB,h9];omega
  have V:=h3.len0 dk dk;unfold tk;rw [if_pos H];by_cases hb:r.1+3<=8*zs.length
  ·rw [if_pos hb] at d a ⊢
   dsimp only;generalize field (bnum zs) r.1 3=F at*;refine ⟨fun hlt=>?_,fun heq=>?_⟩
   ·rw [if_pos dk] at d a
    rcases d with ⟨c',e,U⟩|e
    ·have o:=a c' e
     injection e with e;subst e;exact ⟨fun h=>absurd rfl h,fun _=>⟨_,rfl,rfl,o,U,Y F,K F,G F,b F,Z F⟩⟩
    ·cases e
   ·rw [if_neg dk] at d a
    by_cases au:hk (small.set (ord19 j) (F:Int))=1
    ·rw [if_pos au] at d a
     have s:VJ (r.1+3,0) (decide (hk (small.set (ord19 j) (F:Int))≠1))=(r.1+3,0):=by
      unfold VJ;rw [if_neg (fun x=>(of_decide_eq_true x.2) au)]
     rw [s];rcases d with ⟨c',e,U⟩|e
     ·have o:=a c' e
      injection e with e;subst e;exact ⟨fun h=>absurd rfl h,fun _=>⟨_,rfl,rfl,o,U,Y F,K F,rfl,V⟩⟩
     ·cases e
    ·rw [if_neg au] at d
     have s:VJ (r.1+3,0) (decide (hk (small.set (ord19 j) (F:Int))≠1))=(r.1+3,3):=by
      unfold VJ;rw [if_pos ⟨rfl,decide_eq_true au⟩]
     rw [s];rcases d with ⟨c',e,U⟩|e
     ·cases e
     ·exact og
  ·rw [if_neg hb] at d ⊢
   rcases d with ⟨c',e,_⟩|e
   ·cases e
   ·injection e with e;injection e with e1 e2
    have s:∀p,VJ (r.1,2) p=(r.1,2):=fun p=>VH (show (2:Int)≠0 by decide)
    dsimp only;rw [s];exact ⟨fun _=>⟨fun _=>⟨e1,dk⟩,fun h=>ep⟩,fun _=>⟨fun _=>⟨e1,dk⟩,fun h=>ep⟩⟩
 ·rw [QaD H]
  dsimp only;rw [VH H];exact ⟨fun _=>⟨fun _=>h.no H,fun h=>absurd h H⟩,fun _=>⟨fun _=>h.no H,fun h=>absurd h H⟩⟩
structure In2(zs:List Int)(k:Int)(cf:LC)(L D:Int)(tb:List Int)(r:RR)(all:List Int):Prop where
 no:r.2≠0->r.2=k/\k≠1
 le:r.2=0->(all.length:Int)<=L+D
 lt:r.2=0->(all.length:Int)<L+D->∃c,c.st=4/\c.i=r.1/\QQ c/\Vy zs c k cf/\c.f 2=L/\c.f 3=D/\c.tb=tb/\c.lens=all
 eq:r.2=0->(all.length:Int)=L+D->(chk (all.take L.toNat) (all.drop L.toNat)->k=1/\cf.i=r.1/\cf.lens=all/\cf.f 2=L)/\(¬chk (all.take L.toNat) (all.drop L.toNat)->k=3)
theorem In2.bad(h:r.2≠0)(hk:r.2=k)(h1:k≠1):In2 zs k cf L D tb r all:=
 ⟨fun _=>⟨hk,h1⟩,fun e=>absurd e h,fun e=>absurd e h,fun e=>absurd e h⟩
theorem In2.of_at(h:At zs k cf 4 r (fun c=>c.f 2=L/\c.f 3=D/\c.tb=tb/\c.lens=[]))(hN:0<L+D):In2 zs k cf L D tb r []:=by
 refine ⟨h.no,fun _=>du,fun e _=>?_,fun e he=>?_⟩
 ·obtain ⟨c,J,h2,h3,h4,U,h6,h7,h8⟩:=h.yes e
  exact ⟨c,J,h2,h3,h4,U,h6,h7,h8⟩
 ·simp at he;omega
theorem QkT{c1:LC}{v:Int}{t:Nat}(hw:QQ c1)(h4:4<=c1.st)(hst:(∃c',addS c1 v t=.inl c'/\Vy zs c' k cf)\/addS c1 v t=.inr (k,cf))(e2:c1.f 2=L)(e3:c1.f 3=D)(et:c1.tb=tb)(el:c1.lens=all)(hN0:0<=L+D):In2 zs k cf L D tb (VJ (c1.i,0) (decide ((L+D).toNat<(all++List.replicate t v).length))) (all++List.replicate t v):=by
 have a:∀c',addS c1 v t=.inl c'->QQ c':=fun c' e=>QfH hw h4 e
 unfold addS at hst a;rw [e2,e3,el] at hst a;have hl:(all++List.replicate t v).length=all.length+t:=dr;by_cases g1:(t:Int) > L+D-(all.length:Nat)
 ·rw [if_pos g1] at hst
  have s:VJ (c1.i,0) (decide ((L+D).toNat<(all++List.replicate t v).length))=(c1.i,3):=by
   unfold VJ;rw [if_pos ⟨rfl,decide_eq_true dk⟩]
  rw [s];rcases hst with ⟨c',e,_⟩|e
  ·cases e
  ·injection e with e;injection e with e1 _
   exact jJ
 ·rw [if_neg g1] at hst a
  have s:VJ (c1.i,0) (decide ((L+D).toNat<(all++List.replicate t v).length))=(c1.i,0):=by
   unfold VJ;rw [if_neg (fun x=>by have:=of_decide_eq_true x.2;omega)]
  rw [s];by_cases g2:(t:Int)<L+D-(all.length:Nat)
  ·rw [if_pos g2] at hst a
   rcases hst with ⟨c',e,U⟩|e
   ·have o:=a c' e
    injection e with e;subst e;exact ⟨fun h=>absurd rfl h,fun _=>dk,fun _ _=>⟨{c1 with st:=4,lens:=all++List.replicate t v},rfl,rfl,o,U,e2,e3,et,rfl⟩,fun _ h=>dk⟩
   ·cases e
  ·rw [if_neg g2] at hst a
   by_cases g3:chk ((all++List.replicate t v).take L.toNat) ((all++List.replicate t v).drop L.toNat)
   ·rw [if_pos g3] at hst
    rcases hst with ⟨c',e,U⟩|e
    ·injection e with e
     subst e;refine ⟨fun h=>absurd rfl h,fun _=>dk,fun _ h=>dk,fun _ _=>⟨fun _=>?_,fun h=>absurd g3 h⟩⟩;rcases U.cut with ⟨_,rfl,rfl⟩|⟨h6,_⟩|⟨h6,_⟩
     ·exact ⟨rfl,rfl,rfl,e2⟩
     ·exact absurd h6 (by show ¬(6:Nat)<=5;decide)
     ·exact absurd h6 (by show ¬(6:Nat)<=5;decide)
    ·cases e
   ·rw [if_neg g3] at hst
    rcases hst with ⟨c',e,U⟩|e
    ·cases e
    ·injection e with e;injection e with e1 _
     exact ⟨fun h=>absurd rfl h,fun _=>dk,fun _ h=>dk,fun _ _=>⟨fun h=>absurd h g3,fun _=>e1.symm⟩⟩
theorem QpJ{c:LC}(hw:QQ c)(h5:c.st=5)(he:Vy zs c k cf)(e2:c.f 2=L)(e3:c.f 3=D)(et:c.tb=tb)(el:c.lens=all)(hN0:0<=L+D)(x:Nat)(hx:c.f 27=(x:Int))(i:Nat)(hi:c.i=i):
  In2 zs k cf L D tb (VJ (rpt zs (i,0) all x).1 (decide ((L+D).toNat<(rpt zs (i,0) all x).2.length))) (rpt zs (i,0) all x).2:=by
 have d:=he.step dk;rw [Qbh zs c 5 h5,if_neg dn,if_neg dn,if_neg dn,if_neg dn,if_neg dn] at d;unfold Vs at d;subst hi;have h:∀(n t0:Nat) (v:Int),QcO c=n->Qej c=t0->QeU c=v->∀(g:RR) (a:List Int),g=(tk zs (c.i,0) n).1->a=ups (tk zs (c.i,0) n).1 all v ((tk zs (c.i,0) n).2+t0)->
   In2 zs k cf L D tb (VJ g (decide ((L+D).toNat<a.length))) a:=by
  intro n t0 v o K m g a b u;rw [o,K,m] at d;unfold tk at b u;rw [if_pos rfl] at b u;by_cases hb:c.i+n<=8*zs.length
  ·rw [if_pos hb] at d b u
   dsimp only at b u;unfold ups at u;rw [if_pos rfl] at u;rw [b,u,Nat.add_comm (field (bnum zs) c.i n) t0];exact QkT (c1:={c with i:=c.i+n}) (hw.ati _) ff d e2 e3 et el hN0
  ·rw [if_neg hb] at d b u
   have e2:VJ g (decide ((L+D).toNat<a.length))=(c.i,2):=by rw [b];exact VH (show (2:Int)≠0 by decide)
   rw [e2];rcases d with ⟨c',e,_⟩|e
   ·cases e
   ·injection e with e;injection e with e1 _
    exact In2.bad (by show (2:Int)≠0;decide) e1 dk
 rcases hw.rep h5 with ⟨R,H⟩|l|j
 ·have ex:x=16:=dk
  subst ex;have hb:VJ (c.i,0) (decide (all.length=0))=(c.i,0):=by
   unfold VJ;rw [if_neg (fun y=>by have:=of_decide_eq_true y.2;rw [el] at H;omega)]
  refine h 2 3 (all.getD (all.length-1) 0) ?_ ?_ ?_ _ _ ?_ ?_
  ·unfold QcO;rw [if_pos R]
  ·unfold Qej;rw [if_neg dk]
  ·unfold QeU;rw [if_pos R,el]
  ·unfold rpt;rw [if_pos rfl,hb]
  ·unfold rpt;rw [if_pos rfl,hb]
 ·have ex:x=17:=dk
  subst ex;refine h 3 3 0 ?_ ?_ ?_ _ _ ?_ ?_
  ·unfold QcO;rw [if_neg dk,if_neg dk]
  ·unfold Qej;rw [if_neg dk]
  ·unfold QeU;rw [if_neg dk]
  ·unfold rpt;rw [if_neg dn,if_pos rfl]
  ·unfold rpt;rw [if_neg dn,if_pos rfl]
 ·have ex:x=18:=dk
  subst ex;refine h 7 11 0 ?_ ?_ ?_ _ _ ?_ ?_
  ·unfold QcO;rw [if_neg dk,if_pos j]
  ·unfold Qej;rw [if_pos j]
  ·unfold QeU;rw [if_neg dk]
  ·exact oh
  ·exact oh
theorem Qm9(h:In2 zs k cf L D tb r all)(h0:r.2=0)(hlt:(all.length:Int)<L+D):In2 zs k cf L D tb (rnd zs tb (L+D).toNat r all).1 (rnd zs tb (L+D).toNat r all).2:=by
 obtain ⟨c,J,h2,h3,h4,e2,R,l,O⟩:=h.lt h0 hlt;obtain ⟨i,cl⟩:=r;dsimp only at h0 h2;subst h0 h2;have d:=h4.step dk;rw [Qbh zs c 4 J,if_neg dn,if_neg dn,if_neg dn,if_neg dn,if_pos rfl] at d;have a:∀c',Vq zs c (lkn zs c.i)=.inl c'->QQ c':=fun c' e=>Qdq h3 J e
 have aa:Nat.min (8*zs.length-c.i) 15=lkn zs c.i:=rfl;rw [aa] at d;have H:sy zs (c.i,0) tb=((c.i+(nx3 c.tb (field (bnum zs) c.i (lkn zs c.i)) (lkn zs c.i)).2.2,if (nx3 c.tb (field (bnum zs) c.i (lkn zs c.i)) (lkn zs c.i)).1=2 then 2 else if (nx3 c.tb (field (bnum zs) c.i (lkn zs c.i)) (lkn zs c.i)).1=0 then 3 else 0),(nx3 c.tb (field (bnum zs) c.i (lkn zs c.i)) (lkn zs c.i)).2.1):=by
  unfold sy;rw [if_pos rfl,l]
 have ad:=Qbi c.tb (field (bnum zs) c.i (lkn zs c.i)) (lkn zs c.i);have j:(nx3 c.tb (field (bnum zs) c.i (lkn zs c.i)) (lkn zs c.i)).1=1->(nx3 c.tb (field (bnum zs) c.i (lkn zs c.i)) (lkn zs c.i)).2.1<19:=fun e=>by
  have:=(QaP e).1;rw [h3.tb dk] at this;exact this
 unfold Vq at d a;unfold rnd;rw [H];generalize nx3 c.tb (field (bnum zs) c.i (lkn zs c.i)) (lkn zs c.i)=t at*;obtain ⟨m,f,S⟩:=t;dsimp only at*;rcases ad with rfl|rfl|rfl
 ·rw [if_neg dn,if_neg dn] at d
  rw [show (if (0:Nat)=2 then (2:Int) else if (0:Nat)=0 then 3 else 0)=3 from rfl,if_neg (show ¬(3:Int)=0 by decide)];rcases d with ⟨c',e,_⟩|e
  ·cases e
  ·injection e with e;injection e with e1 _
   exact jJ
 ·rw [if_pos rfl] at d a
  rw [show (if (1:Nat)=2 then (2:Int) else if (1:Nat)=0 then 3 else 0)=0 from rfl,if_pos rfl];have g:=j rfl;by_cases g1:f<16
  ·rw [if_pos g1] at d
   have b:rpt zs (c.i+S,0) all f=((c.i+S,0),all++List.replicate 1 (f:Int)):=by
    unfold rpt ups;rw [if_neg dk,if_neg dk,if_neg dk,if_pos rfl]
   rw [b];exact QkT (c1:={c with i:=c.i+S}) (h3.ati _) ff d e2 R l O dk
  ·rw [if_neg g1] at d a
   by_cases g2:f=16/\c.lens.length=0
   ·rw [if_pos g2] at d
    rcases d with ⟨c',e,_⟩|e
    ·cases e
    ·injection e with e;injection e with e1 _
     obtain ⟨rfl,g3⟩:=g2;have hb:VJ (c.i+S,0) (decide (all.length=0))=(c.i+S,3):=by
      unfold VJ;rw [if_pos ⟨rfl,decide_eq_true (by rw [<-O];exact g3)⟩]
     have b:(rpt zs (c.i+S,0) all 16).1=(c.i+S,3):=by
      unfold rpt;rw [if_pos rfl,hb,QaD (show (3:Int)≠0 by decide)]
     rw [b,VH (show (3:Int)≠0 by decide)];exact jJ
   ·rw [if_neg g2] at d a
    rcases d with ⟨c',e,U⟩|e
    ·have o:=a c' e
     injection e with e;subst e;exact QpJ o rfl U (by simpa [upd] using e2) (by simpa [upd] using R) l O dk f (by simp [upd]) (c.i+S) rfl
    ·cases e
 ·rw [if_neg dn,if_pos rfl] at d
  rw [show (if (2:Nat)=2 then (2:Int) else if (2:Nat)=0 then 3 else 0)=2 from rfl,if_neg (show ¬(2:Int)=0 by decide)];rcases d with ⟨c',e,_⟩|e
  ·cases e
  ·injection e with e;injection e with e1 _
   exact In2.bad (by show (2:Int)≠0;decide) e1 dk
def mu2(N:Nat)(r:RR)(all:List Int):Nat:=if r.2=0/\all.length<N then N-all.length else 0
theorem Qnx{N:Nat}(h0:r.2=0)(hlt:all.length<N):mu2 N (rnd zs tb N r all).1 (rnd zs tb N r all).2<mu2 N r all:=by
 have hm:mu2 N r all=N-all.length:=by unfold mu2;rw [if_pos ⟨h0,hlt⟩]
 rw [hm];unfold mu2;split
 ·rename_i hx
  have D:∀(g:RR) v t,g.2=0->(ups g all v t).length=all.length+t:=by
   intro g v t e;unfold ups;rw [if_pos e];simp
  have al:∀(g:RR) p,(VJ g p).2=0->g.2=0:=by
   intro g p e;by_cases h:g.2=0
   ·exact h
   ·rw [VH h] at e;exact e
  have d:all.length<(rnd zs tb N r all).2.length:=by
   obtain ⟨u,x2⟩:=hx;unfold rnd at u ⊢;split
   ·rename_i E
    rw [if_pos E] at u;have y:=al _ _ u;revert y;unfold rpt;split
    ·exact gS
    ·split
     ·exact gS
     ·split
      ·exact gS
      ·exact gS
   ·rename_i E
    rw [if_neg E] at u;exact absurd u E
  omega
 ·omega
end
end Go.Proofs.YtgginbpmebgkcaaGreatDoor
namespace Go.Proofs.YtgginbpmebgkcaaGreatDoor
open Go.RowKit Go.Proofs.Tryz
attribute [local go_sem ↓] Go.wp_at_zero Go.wp_at_succ
set_option linter.unusedVariables false
set_option maxRecDepth 100000
set_option maxHeartbeats 25600000
theorem Qqb(x:Int)(s:Nat)(x0:0<=x)(x1:x<=255):(IntKind.u64.wrap (x/2^s)).tmod 2=((x.toNat/2^s%2:Nat):Int):=by
 obtain ⟨X,rfl⟩:=Int.eq_ofNat_of_zero_le x0;have e:(X:Int)/2^s=((X/2^s:Nat):Int):=gw;have hd:X/2^s<=X:=Nat.div_le_self _ _;rw [e,Int.toNat_natCast];generalize X/2^s=Y at*;have A:IntKind.u64.wrap (Y:Int)=(Y:Int):=dN;rw [A,Int.tmod_eq_emod_of_nonneg dk];omega
theorem Qhe(ao:Option Addr)(cap:Nat)(zs:List Int)(i:Nat)(w:World)(hr:Q1 w ao zs)(hz:Qh zs)(hl:zs.length<=1000000)(hi:i<8*zs.length):
  Calls prog 85 #[.slice ao zs.length cap,.int .i64 i] w fun e w'=>e=.returned (.int .u64 (bnum zs/2^i%2:Nat))/\w'=w:=by
 obtain ⟨b,U,rfl,I⟩:=hr.at (k:=i/8) dk;have a2:=I (i/8) dk;have c:=hz.getD<|i/8
 have HB:dm ((zs.getD (i/8) 0).toNat/2^(i%8)%2=bnum zs/2^i%2):=Qo3 zs hz i;obtain ⟨j,hj⟩:∃j:Nat,j=i/8:=⟨_,rfl⟩;obtain ⟨r,d⟩:∃r:Nat,r=i%8:=⟨_,rfl⟩;have e1:((i:Int)/8)=(j:Int):=dk;have e2:((i:Int)%8)=(r:Int):=dk;have aI:j<zs.length:=dk;rw [<-hj] at a2 c HB;rw [<-d] at HB;clear I hr hj d;generalize zs.getD j 0=x at*;generalize bnum zs/2^i%2=bt at*;go_enter func85,ntmps85;go_wp2_with fail;go_ret;exact ⟨QpK (by rw [Qqb x r c.1 c.2,HB.u]),rfl⟩
theorem Qb0(i:Nat):VJ (i,0) true=(i,3):=by unfold VJ;rw [if_pos ⟨rfl,rfl⟩]
theorem Qbb(i:Nat)(cl:Int):VJ (i,cl) false=(i,cl):=by unfold VJ;rw [if_neg (fun h=>by cases h.2)]
theorem Q0(ao:Option Addr)(n cap i:Nat)(cl:Int)(b:Bool)(w:World):
  Calls prog 40 #[.agg #[.slice ao n cap,.int .i64 (i:Nat),.int .i64 cl],.bool b] w fun e w'=>e=.returned (.agg #[.slice ao n cap,.int .i64 ((VJ (i,cl) b).1:Nat),.int .i64 (VJ (i,cl) b).2])/\Below w.heap.size w w':=by
 by_cases I:cl=0
 ·subst I
  cases b with
  | true=>
   rw [Qb0];go_enter func40,ntmps40;go_wp2_with fail;exact bodyPost_ret (v:=.agg #[.slice ao n cap,.int .i64 (i:Nat),.int .i64 3]) jK rfl ⟨rfl,((Below.refl _ _).alloc (Nat.le_refl _) _).alloc dr _⟩
  | false=>
   rw [Qbb];go_enter func40,ntmps40;go_wp2_with fail;exact bodyPost_ret (v:=.agg #[.slice ao n cap,.int .i64 (i:Nat),.int .i64 0]) jK rfl ⟨rfl,((Below.refl _ _).alloc (Nat.le_refl _) _).alloc dr _⟩
 ·have hb:(cl == 0)=false:=dX
  rw [VH (show (i,cl).2≠0 from I)];clear I;go_enter func40,ntmps40;go_wp2_with fail;exact bodyPost_ret (v:=.agg #[.slice ao n cap,.int .i64 (i:Nat),.int .i64 cl]) jK rfl ⟨rfl,((Below.refl _ _).alloc (Nat.le_refl _) _).alloc dr _⟩
theorem QjF(N i k n:Nat)(h:k<n):field N (i+k) (n-k)=2*field N (i+k+1) (n-(k+1))+N/2^(i+k)%2:=by
 rw [show n-k=(n-(k+1))+1 from dk,Qko]
theorem VN(ao:Option Addr)(cap:Nat)(zs:List Int)(i n:Nat)(cl:Int)(w:World)(hr:Q1 w ao zs)(hz:Qh zs)(hzl:zs.length<=65536)(hi:i<=8*zs.length)(hn:n<=32):
  Calls prog 48 #[.agg #[.slice ao zs.length cap,.int .i64 (i:Nat),.int .i64 cl],.int .i64 (n:Nat)] w fun e w'=>
   e=.returned (.tuple #[.agg #[.slice ao zs.length cap,.int .i64 ((tk zs (i,cl) n).1.1:Nat),.int .i64 (tk zs (i,cl) n).1.2],.int .i64 ((tk zs (i,cl) n).2:Nat)])/\Below w.heap.size w w':=by
 by_cases I:cl=0
 ·subst I
  by_cases hb:i+n<=8*zs.length
  ·have ht:tk zs (i,0) n=((i+n,0),field (bnum zs) i n):=by unfold tk;rw [if_pos rfl,if_pos hb]
   rw [ht];have c:¬(8*(zs.length:Int)<(i:Int)+(n:Int)):=dk;have HR:dm (∀k,k<n->∀W,Below w.heap.size w W->Calls prog 85 #[.slice ao zs.length cap,.int .i64 ((i:Int)+(k:Int))] W fun e w'=>e=.returned (.int .u64 (bnum zs/2^(i+k)%2:Nat))/\w'=W):=fun k hk W hW=>Qhe ao cap zs (i+k) W (hr.below hW) hz dk dk
   have HF:=Qe (fun k (h:k<n)=>QjF (bnum zs) i k n h);have ax:dm (field (bnum zs) (i+n) (n-n)=0):=by show _=_;rw [Nat.sub_self,Qf5]
   have z:=Qe (fun s m=>Q4 (bnum zs) s m);have b4:dm (field (bnum zs) (i+0) (n-0)=field (bnum zs) i n):=rfl;generalize X:bnum zs=N at*;clear X hr hz ht hb;generalize hL:zs.length=Z at*;clear hL;go_enter func48,ntmps48;go_wp2_with fail;go_loopw [6,7] (fun v kk wr=>∃k:Nat,k<=n/\v=.int .i64 (field N (i+k) (n-k):Nat)/\kk=.int .i64 ((k:Int)-1)/\wr=(w.alloc (.cells #[.slice ao Z cap,.int .i64 (i:Nat),.int .i64 0] 85)).alloc (.cells #[.slice none 0 0,.int .i64 0,.int .i64 0] 85)) (fun _ kk _=>(intOf kk+1).toNat)
   case atStart=>exact ⟨n,Nat.le_refl _,by rw [ax.u];rfl,rfl,rfl⟩
   case round=>
    obtain ⟨k,hk,rfl,rfl,rfl⟩:=hrel;cases k with
    | succ k=>
     have HK:=Qe<|HR.u k dk _ (((Below.refl w.heap.size w).alloc (Nat.le_refl _) (.cells #[.slice ao Z cap,.int .i64 (i:Nat),.int .i64 0] 85)).alloc dr (.cells #[.slice none 0 0,.int .i64 0,.int .i64 0] 85))
     have R:=Qe<|HF.u k dk
     have ab:field N (i+(k+1)) (n-(k+1))<2^32:=Nat.lt_of_lt_of_le (z.u _ _) (Nat.pow_le_pow_right dn dk);rw [show i+k+1=i+(k+1) from rfl] at R;generalize field N (i+(k+1)) (n-(k+1))=f1 at*;have al:N/2^(i+k)%2<2:=Nat.mod_lt _ dn;generalize N/2^(i+k)%2=bt at*;have a:f1<4294967296:=ab;clear ab;go_wp2_with fail;refine Calls.mono HK.u ?_;rintro e w1 ⟨rfl,rfl⟩;go_wp2_with fail;go_roundw
     case rel=>exact ⟨k,dk,by rw [R.u];go_num,dw,trivial⟩
     case measure=>simp [intOf]
    | zero=>
     rw [b4.u];have ab:field N i n<2^32:=Nat.lt_of_lt_of_le (z.u _ _) (Nat.pow_le_pow_right dn dk);clear ab;go_wp2_with fail;exact bodyPost_ret (v:=.tuple #[.agg #[.slice ao Z cap,.int .i64 ((i:Int)+(n:Int)),.int .i64 0],.int .i64 (field N i n:Nat)]) jL rfl ⟨rfl,((Below.refl _ _).alloc (Nat.le_refl _) _).alloc dr _⟩
  ·have ht:tk zs (i,0) n=((i,2),0):=by unfold tk;rw [if_pos rfl,if_neg hb]
   rw [ht];have c:(8*(zs.length:Int)<(i:Int)+(n:Int)):=dk;clear hr hz ht hb;generalize hL:zs.length=Z at*;clear hL;go_enter func48,ntmps48;go_wp2_with fail;exact bodyPost_ret (v:=.tuple #[.agg #[.slice ao Z cap,.int .i64 (i:Nat),.int .i64 2],.int .i64 0]) jL rfl ⟨rfl,((Below.refl _ _).alloc (Nat.le_refl _) _).alloc dr _⟩
 ·have hb:(cl == 0)=false:=dX
  have ah:(cl != 0)=true:=dX;rw [QaD (show (i,cl).2≠0 from I)];clear I hr hz;generalize hL:zs.length=Z at*;clear hL;go_enter func48,ntmps48;go_wp2_with fail;exact bodyPost_ret (v:=.tuple #[.agg #[.slice ao Z cap,.int .i64 (i:Nat),.int .i64 cl],.int .i64 0]) jL rfl ⟨rfl,((Below.refl _ _).alloc (Nat.le_refl _) _).alloc dr _⟩
section
theorem ot{P:Prop}(h:P:=by
 clear a af;go_wp2_with fail;refine Calls.mono HN.u ?_;rintro e w3 ⟨rfl,r⟩;have B3:=Qe<|B2.u.below r
 have R3:=Qe<|R2.u.below r
 have D:=Qe<|L2.u.trans (r.mono L2.u.size)
 have H:Below w3.heap.size w3 (w3.alloc (.cells #[.int .i64 (t1:Nat),.int .i64 (t2:Nat),.int .i64 (t3:Nat)] 233)):=(Below.refl _ _).alloc (Nat.le_refl _) _;have y:=Qe<|B3.u.below H
 have R4:=Qe<|R3.u.below H
 have L4:=Qe<|D.u.trans (H.mono D.u.size)
 have j:=Qe<|VI w3 (.int .i64 (t1:Nat)) (t2:Nat) (t3:Nat) 233
 have hq:w.heap.size+1<w3.heap.size:=R3.u.lt;clear r H HN B2 R2 L2 B3 R3 D;go_upto_region 9 with fail;obtain ⟨q,U⟩:=dt w3.heap.size;generalize w3.alloc (.cells #[.int .i64 (t1:Nat),.int .i64 (t2:Nat),.int .i64 (t3:Nat)] 233)=W4 at*;rw [U] at j hq ⊢;clear U;rcases ad with rfl|rfl|rfl
 ·obtain ⟨rfl,rfl⟩:=ak dn
  clear ak;have HT:dm (S=((i,3),0)):=by
   show _=_;rw [HS.u];rfl
  obtain ⟨b0,b1,b2,C⟩:=y.u;obtain ⟨V,u,x2,t⟩:=j.u;clear C t;go_upto_region 11 with fail;clear b0 b1 b2 V u x2;have g:=y;have R5:=R4;have O:=j;have B:=L4;clear y R4 j L4;generalize W4=X at*;obtain ⟨b0,b1,b2,C⟩:=g.u;obtain ⟨V,u,x2,t⟩:=O.u;clear C t;have c:=Qe<|Q0 ao Z cap i 0 true X
  rw [show VJ (i,0) true=(i,3) from rfl] at c;go_wp2_with fail;refine Calls.mono c.u ?_;rintro e w6 ⟨rfl,aj⟩;refine lZ ?_;intro B6 R6 X6 L6;clear aj c b0 b1 b2 V u x2;obtain ⟨b0,b1,b2,C⟩:=B6.u;refine dA ?_;intro ag G ae;have z1:=B6.u.lt;clear C;have E7:=Qe<|B6.u.set (.slice ao Z cap) (i:Nat) 3
  refine ma ?_;intro R7 p L7 B7;go_upto_region 12 with fail;clear E7 b0 b1 b2 ag G ae z1;generalize ((w6.setCell ⟨w.heap.size,0,none⟩ (.slice ao Z cap)).setCell ⟨w.heap.size,1,none⟩ (.int .i64 (i:Nat))).setCell ⟨w.heap.size,2,none⟩ (.int .i64 3)=W7 at*;obtain ⟨b0,b1,b2,C⟩:=B7.u;have G:=C 1;obtain ⟨V,u,x2,t⟩:=p.u;clear C t;go_upto_region 13 with fail;clear b0 b1 b2 G V u x2;have d:=Qe<|Qf W7 ⟨w.heap.size,1,none⟩ (.int .i64 ((i:Nat):Int))
  have B8:=Qe<|B7.u.set1 ((i:Nat):Int)
  refine mc ?_;intro R8 X8 L8;clear d;generalize W7.setCell ⟨w.heap.size,1,none⟩ (.int .i64 ((i:Nat):Int))=W8 at*;obtain ⟨b0,b1,b2,C⟩:=B8.u;obtain ⟨r0,r1,r2,rf⟩:=R8.u;have aE:=rf 0;have aC:=rf 1;have aD:=rf 2;obtain ⟨V,u,x2,t⟩:=X8.u;have z3:=R8.u.lt;clear C rf t;have P:=Qe<|R8.u.set (.slice ao Z cap) ((i:Nat):Int) 3
  have L9:=Qe<|L8.u.grown P.u.2 dk dz
  go_region
  go_wp2_with fail;obtain ⟨⟨y0,F,y2,_⟩,_⟩:=P.u;rw [HT.u];exact bodyPost_ret (v:=.tuple #[.agg #[.slice ao Z cap,.int .i64 ((i:Nat):Int),.int .i64 3],.int .i64 0]) me rfl ⟨rfl,mf⟩
 ·clear ak
  have HT:dm (S=((i+t3,0),t2)):=by
   show _=_;rw [HS.u];rfl
  obtain ⟨b0,b1,b2,C⟩:=y.u;obtain ⟨V,u,x2,t⟩:=j.u;clear C t;go_upto_region 11 with fail;clear b0 b1 b2 V u x2;have g:=y;have R5:=R4;have O:=j;have B:=L4;clear y R4 j L4;generalize W4=X at*;obtain ⟨b0,b1,b2,C⟩:=g.u;obtain ⟨V,u,x2,t⟩:=O.u;clear C t;have c:=Qe<|Q0 ao Z cap i 0 false X
  rw [show VJ (i,0) false=(i,0) from rfl] at c;go_wp2_with fail;refine Calls.mono c.u ?_;rintro e w6 ⟨rfl,aj⟩;refine lZ ?_;intro B6 R6 X6 L6;clear aj c b0 b1 b2 V u x2;obtain ⟨b0,b1,b2,C⟩:=B6.u;refine dA ?_;intro ag G ae;have z1:=B6.u.lt;clear C;have E7:=Qe<|B6.u.set (.slice ao Z cap) (i:Nat) 0
  refine ma ?_;intro R7 p L7 B7;go_upto_region 12 with fail;clear E7 b0 b1 b2 ag G ae z1;generalize ((w6.setCell ⟨w.heap.size,0,none⟩ (.slice ao Z cap)).setCell ⟨w.heap.size,1,none⟩ (.int .i64 (i:Nat))).setCell ⟨w.heap.size,2,none⟩ (.int .i64 0)=W7 at*;obtain ⟨b0,b1,b2,C⟩:=B7.u;have G:=C 1;obtain ⟨V,u,x2,t⟩:=p.u;clear C t;go_upto_region 13 with fail;clear b0 b1 b2 G V u x2;have d:=Qe<|Qf W7 ⟨w.heap.size,1,none⟩ (.int .i64 ((i:Int)+(t3:Int)))
  have B8:=Qe<|B7.u.set1 ((i:Int)+(t3:Int))
  refine mc ?_;intro R8 X8 L8;clear d;generalize W7.setCell ⟨w.heap.size,1,none⟩ (.int .i64 ((i:Int)+(t3:Int)))=W8 at*;obtain ⟨b0,b1,b2,C⟩:=B8.u;obtain ⟨r0,r1,r2,rf⟩:=R8.u;have aE:=rf 0;have aC:=rf 1;have aD:=rf 2;obtain ⟨V,u,x2,t⟩:=X8.u;have z3:=R8.u.lt;clear C rf t;have P:=Qe<|R8.u.set (.slice ao Z cap) ((i:Int)+(t3:Int)) 0
  have L9:=Qe<|L8.u.grown P.u.2 dk dz
  go_region
  go_wp2_with fail;obtain ⟨⟨y0,F,y2,_⟩,_⟩:=P.u;rw [HT.u];exact bodyPost_ret (v:=.tuple #[.agg #[.slice ao Z cap,.int .i64 ((i:Int)+(t3:Int)),.int .i64 0],.int .i64 (t2:Nat)]) me rfl ⟨by rw [Int.natCast_add],mf⟩
 ·obtain ⟨rfl,rfl⟩:=ak dn
  clear ak;have HT:dm (S=((i,2),0)):=by
   show _=_;rw [HS.u];rfl
  have g:=Qe<|y.u.set2 2
  have V5:=Qe<|Qf W4 ⟨w.heap.size,2,none⟩ (.int .i64 2)
  have R5:=Qe<|R4.u.grown V5.u dr
  have O:=Qe<|j.u.grown V5.u du
  have B:=Qe<|L4.u.grown V5.u (by have:=y.u.lt;omega) dz
  obtain ⟨b0,b1,b2,C⟩:=y.u;have ae:=C 2;obtain ⟨V,u,x2,t⟩:=j.u;clear C t;go_upto_region 11 with fail;clear b0 b1 b2 ae V u x2 V5;generalize W4.setCell ⟨w.heap.size,2,none⟩ (.int .i64 2)=X at*;obtain ⟨b0,b1,b2,C⟩:=g.u;obtain ⟨V,u,x2,t⟩:=O.u;clear C t;have c:=Qe<|Q0 ao Z cap i 2 false X
  rw [show VJ (i,2) false=(i,2) from rfl] at c;go_wp2_with fail;refine Calls.mono c.u ?_;rintro e w6 ⟨rfl,aj⟩;refine lZ ?_;intro B6 R6 X6 L6;clear aj c b0 b1 b2 V u x2;obtain ⟨b0,b1,b2,C⟩:=B6.u;refine dA ?_;intro ag G ae;have z1:=B6.u.lt;clear C;have E7:=Qe<|B6.u.set (.slice ao Z cap) (i:Nat) 2
  refine ma ?_;intro R7 p L7 B7;go_upto_region 12 with fail;clear E7 b0 b1 b2 ag G ae z1;generalize ((w6.setCell ⟨w.heap.size,0,none⟩ (.slice ao Z cap)).setCell ⟨w.heap.size,1,none⟩ (.int .i64 (i:Nat))).setCell ⟨w.heap.size,2,none⟩ (.int .i64 2)=W7 at*;obtain ⟨b0,b1,b2,C⟩:=B7.u;have G:=C 1;obtain ⟨V,u,x2,t⟩:=p.u;clear C t;go_upto_region 13 with fail;clear b0 b1 b2 G V u x2;have d:=Qe<|Qf W7 ⟨w.heap.size,1,none⟩ (.int .i64 ((i:Nat):Int))
  have B8:=Qe<|B7.u.set1 ((i:Nat):Int)
  refine mc ?_;intro R8 X8 L8;clear d;generalize W7.setCell ⟨w.heap.size,1,none⟩ (.int .i64 ((i:Nat):Int))=W8 at*;obtain ⟨b0,b1,b2,C⟩:=B8.u;obtain ⟨r0,r1,r2,rf⟩:=R8.u;have aE:=rf 0;have aC:=rf 1;have aD:=rf 2;obtain ⟨V,u,x2,t⟩:=X8.u;have z3:=R8.u.lt;clear C rf t;have P:=Qe<|R8.u.set (.slice ao Z cap) ((i:Nat):Int) 2
  have L9:=Qe<|L8.u.grown P.u.2 dk dz
  go_region
  go_wp2_with fail;obtain ⟨⟨y0,F,y2,_⟩,_⟩:=P.u;rw [HT.u];exact bodyPost_ret (v:=.tuple #[.agg #[.slice ao Z cap,.int .i64 ((i:Nat):Int),.int .i64 2],.int .i64 0]) me rfl ⟨rfl,mf⟩):P:=h
variable{w w':World}{p n b:Nat}{v:Value}{i cl:Int}{ls:List Int}
theorem QjW(N i n:Nat):field N i (n+1)=field N i n+N/2^(i+n)%2*2^n:=by
 unfold field;rw [Nat.pow_succ,Nat.mod_mul,Nat.div_div_eq_div_mul,<-Nat.pow_add,Nat.mul_comm (2^n)]
theorem QiO{ls:List Int}{b n:Nat}(h:(nx3 ls b n).1≠1):(nx3 ls b n).2.1=0/\(nx3 ls b n).2.2=0:=by
 have h2:=Qhy ls b n;generalize nx3 ls b n=t at*;obtain ⟨k,s,l⟩:=t;dsimp only at*;unfold Qa8 at h2;split at h2
 ·rcases h2 with ⟨i,_,_,h3,_⟩|⟨i,_,_,_,h3,h4⟩|⟨_,_,h3,h4⟩
  ·exact absurd h3 h
  ·exact ⟨h3,h4⟩
  ·exact ⟨h3,h4⟩
 ·exact ⟨h2.2.1,h2.2.2⟩
theorem Qlw{ls:List Int}{b n:Nat}:(nx3 ls b n).2.2<=n:=by
 by_cases h:(nx3 ls b n).1=1
 ·exact (QaP h).2
 ·rw [(QiO h).2];exact Nat.zero_le _
theorem Qba.belowL{ao:Option Addr}{F:Nat->Nat×Nat}(h:Qba w ao n F)(hb:Below w.heap.size w w'):Qba w' ao n F:=fun h0=>by
 obtain ⟨g,h1,h2⟩:=h h0
 exact ⟨g,h1,h2.grown (Qk hb none) dr⟩
theorem QrO(f1 bt k:Nat)(hf:f1<32768)(hb:bt<2)(hk:k<15):IntKind.u64.wrap ((f1:Int)+IntKind.u64.wrap ((bt:Int)*2^k))=((f1+bt*2^k:Nat):Int):=by
 have N:2^k<=16384:=(Nat.pow_le_pow_right (n:=2) dn (show k<=14 by omega):2^k<=2^14);rw [QcE];generalize 2^k=P at*;rcases (show bt=0\/bt=1 from dk) with rfl|rfl
 ·simp only [IntKind.wrap_u64];omega
 ·simp only [IntKind.wrap_u64];omega
def L5m(w:World)(p:Nat)(v:Value)(i cl:Int):Prop:=w.cell? ⟨p,0,none⟩=some v/\w.cell? ⟨p,1,none⟩=some (.int .i64 i)/\w.cell? ⟨p,2,none⟩=some (.int .i64 cl)/\∀o,w.frozen? ⟨p,o,none⟩=false
theorem L5m.lt(h:L5m w p v i cl):p<w.heap.size:=World.block_lt_of_cell? w _ h.1
theorem L5m.grown{row:Option Nat}(h:L5m w p v i cl)(hg:w.grownBy w' row)(hne:some p≠row):L5m w' p v i cl:=by
 have e:=hg.block p h.lt hne;obtain ⟨H,J,h2,h3⟩:=h;exact ⟨(World.cell?_of_block (w:=w) e).trans H,(World.cell?_of_block (w:=w) e).trans J,(World.cell?_of_block (w:=w) e).trans h2,fun o=>(World.frozen?_of_block (w:=w) e).trans (h3 o)⟩
theorem L5m.below(h:L5m w p v i cl)(hb:Below w.heap.size w w'):L5m w' p v i cl:=h.grown (Qk hb none) dr
theorem VI(w:World)(v:Value)(i cl:Int)(t:TypeId):L5m (w.alloc (.cells #[v,.int .i64 i,.int .i64 cl] t)) w.heap.size v i cl:=by
 refine ⟨?_,?_,?_,?_⟩<;>simp [go_sem]
theorem Qc6{a:Addr}{u:Value}(v:Value)(h:w.cell? a=some u):(w.setCell a v).cell? a=some v:=World.cell?_setCell_same _ _ _ h
theorem Qao{i j:Nat}{u:Option Value}(v:Value)(hij:i≠j)(h:w.cell? ⟨p,j,none⟩=u):(w.setCell ⟨p,i,none⟩ v).cell? ⟨p,j,none⟩=u:=by
 rw [World.cell?_setCell_other _ _ _ _ dB];exact h
theorem L5m.set1(h:L5m w p v i cl)(x:Int):L5m (w.setCell ⟨p,1,none⟩ (.int .i64 x)) p v x cl:=
 ⟨Qao _ dn h.1,Qc6 _ h.2.1,Qao _ dn h.2.2.1,fun o=>oq⟩
theorem L5m.set2(h:L5m w p v i cl)(x:Int):L5m (w.setCell ⟨p,2,none⟩ (.int .i64 x)) p v i x:=
 ⟨Qao _ dn h.1,Qao _ dn h.2.1,Qc6 _ h.2.2.1,fun o=>oq⟩
theorem L5m.set(h:L5m w p v i cl)(v':Value)(i' cl':Int):L5m (((w.setCell ⟨p,0,none⟩ v').setCell ⟨p,1,none⟩ (.int .i64 i')).setCell ⟨p,2,none⟩ (.int .i64 cl')) p v' i' cl'/\w.grownBy (((w.setCell ⟨p,0,none⟩ v').setCell ⟨p,1,none⟩ (.int .i64 i')).setCell ⟨p,2,none⟩ (.int .i64 cl')) (some p):=
 ⟨⟨Qao _ dn (Qao _ dn (Qc6 _ h.1)),Qao _ dn (Qc6 _ (Qao _ dn h.2.1)),Qc6 _ (Qao _ dn (Qao _ dn h.2.2.1)),fun o=>by rw [World.frozen?_setCell,World.frozen?_setCell,World.frozen?_setCell];exact h.2.2.2 o⟩,
  Qj (Qj (Qf w ⟨p,0,none⟩ _) (Qf _ ⟨p,1,none⟩ _)) (Qf _ ⟨p,2,none⟩ _)⟩
theorem QdT(ao:Option Addr)(cap:Nat)(zs:List Int)(i:Nat)(cl:Int)(tb:List Int)(co:Option Addr)(nc cc:Nat)(w:World)(hr:Q1 w ao zs)(hz:Qh zs)(hzl:zs.length<=65536)(hi:i<=8*zs.length)(hcd:cl=0->okC tb=true/\nc=tb.length/\Qba w co tb.length (code tb)):
  Calls prog 120 #[.agg #[.slice ao zs.length cap,.int .i64 (i:Nat),.int .i64 cl],.slice co nc cc] w fun e w'=>
   e=.returned (.tuple #[.agg #[.slice ao zs.length cap,.int .i64 ((sy zs (i,cl) tb).1.1:Nat),.int .i64 (sy zs (i,cl) tb).1.2],.int .i64 ((sy zs (i,cl) tb).2:Nat)])/\Below w.heap.size w w':=by
 by_cases I:cl=0
 ·obtain ⟨A,rfl,x⟩:=hcd I
  subst I;have aa:lkn zs i<=15:=Nat.min_le_right _ _;have av:i+lkn zs i<=8*zs.length:=by have:lkn zs i<=8*zs.length-i:=Nat.min_le_left _ _;omega
  have ai:lkn zs i<15->i+lkn zs i=8*zs.length:=by
   intro h;unfold lkn at h ⊢;rcases Nat.le_total (8*zs.length-i) 15 with J|J
   ·rw [show Nat.min (8*zs.length-i) 15=8*zs.length-i from Nat.min_eq_left J];omega
   ·rw [show Nat.min (8*zs.length-i) 15=15 from Nat.min_eq_right J] at h;omega
  have HS:dm (sy zs (i,0) tb=((i+(nx3 tb (field (bnum zs) i (lkn zs i)) (lkn zs i)).2.2,if (nx3 tb (field (bnum zs) i (lkn zs i)) (lkn zs i)).1=2 then 2 else if (nx3 tb (field (bnum zs) i (lkn zs i)) (lkn zs i)).1=0 then 3 else 0),(nx3 tb (field (bnum zs) i (lkn zs i)) (lkn zs i)).2.1)):=by
   show _=_;unfold sy;rw [if_pos rfl]
  have HR:dm (∀k,k<lkn zs i->∀W,Below w.heap.size w W->Calls prog 85 #[.slice ao zs.length cap,.int .i64 ((i:Int)+(k:Int))] W fun e w'=>e=.returned (.int .u64 (bnum zs/2^(i+k)%2:Nat))/\w'=W):=fun k hk W hW=>Qhe ao cap zs (i+k) W (hr.below hW) hz dk dk
  have HX:dm (∀W b n,Below w.heap.size w W->b<2^64->n<=64->Calls prog 164 #[.slice co tb.length cc,.int .u64 (b:Nat),.int .i64 (n:Nat)] W fun e w'=>e=.returned (.agg #[.int .i64 ((nx3 tb b n).1:Nat),.int .i64 ((nx3 tb b n).2.1:Nat),.int .i64 ((nx3 tb b n).2.2:Nat)])/\Below W.heap.size W w'):=by
   intro W b n hW hb M;refine Calls.mono (QkC tb co cc b n W (Qba.belowL x hW) A hb M) ?_;rintro e w' ⟨⟨k,s,l,rfl,hA⟩,f⟩;rw [Qhm (Qa8.yes A M hA)];exact ⟨rfl,f⟩
  have an:=Qe (fun n=>QjW (bnum zs) i n);have ax:=Qe<|Qf5 (bnum zs) i
  have z:=Qe (fun m=>Q4 (bnum zs) i m);have ar:=Qe<|Qbi tb
  have L:=Qe (fun b n=>@QiO tb b n);have o:=Qe (fun b n=>@Qlw tb b n);generalize sy zs (i,0) tb=S at*;generalize lkn zs i=K at*;generalize bnum zs=N at*;clear hcd x A hr hz;generalize hL:zs.length=Z at*;clear hL;go_enter func120,ntmps120;go_wp2_with fail;go_loopw [6,7] (fun v kk wr=>∃k:Nat,k<=K/\v=.int .u64 (field N i k:Nat)/\kk=.int .i64 (k:Nat)/\wr=(w.alloc (.cells #[.slice ao Z cap,.int .i64 (i:Nat),.int .i64 0] 85)).alloc (.cells #[.slice none 0 0,.int .i64 0,.int .i64 0] 85)) (fun _ kk _=>K-(intOf kk).toNat)
  case atStart=>exact ⟨0,Nat.zero_le _,by rw [ax.u];rfl,rfl,rfl⟩
  case round=>
   obtain ⟨k,hk,rfl,rfl,rfl⟩:=hrel;by_cases ab:k<K
   ·have a:k<15:=dk
    have h8:(i:Int)+(k:Int)<8*(Z:Int):=dk;have HK:=Qe<|HR.u k ab _ (((Below.refl w.heap.size w).alloc (Nat.le_refl _) (.cells #[.slice ao Z cap,.int .i64 (i:Nat),.int .i64 0] 85)).alloc dr (.cells #[.slice none 0 0,.int .i64 0,.int .i64 0] 85))
    have R:=Qe<|an.u k
    have Q:field N i k<2^15:=Nat.lt_of_lt_of_le (z.u k) (Nat.pow_le_pow_right dn dk);have Y:field N i k<32768:=Q;generalize field N i k=f1 at*;have al:N/2^(i+k)%2<2:=Nat.mod_lt _ dn;generalize N/2^(i+k)%2=bt at*;clear Q;go_wp2_with fail;refine Calls.mono HK.u ?_;rintro e w1 ⟨rfl,rfl⟩;have au:=Qe<|QrO f1 bt k Y al a
    go_wp2_with fail;go_roundw
    case rel=>exact ⟨k+1,dk,by rw [au.u,R.u],dw,trivial⟩
    case measure=>simp [intOf];omega
   ·have e:k=K:=dk
    subst e;have af:¬(k<15/\i+k<8*Z):=by
     rintro ⟨a1,a2⟩;have:=ai a1;omega
    have Q:field N i k<2^64:=Nat.lt_of_lt_of_le (z.u k) (Nat.pow_le_pow_right dn dk);have HN:=Qe<|HX.u ((w.alloc (.cells #[.slice ao Z cap,.int .i64 (i:Nat),.int .i64 0] 85)).alloc (.cells #[.slice none 0 0,.int .i64 0,.int .i64 0] 85)) (field N i k) k (((Below.refl w.heap.size w).alloc (Nat.le_refl _) _).alloc dr _) Q dk
    have ad:=ar.u (field N i k) k;have ak:=L.u (field N i k) k;have aw:=o.u (field N i k) k;generalize nx3 tb (field N i k) k=T at*;obtain ⟨t1,t2,t3⟩:=T;dsimp only at*;have B2:dm (L5m ((w.alloc (.cells #[.slice ao Z cap,.int .i64 (i:Nat),.int .i64 0] 85)).alloc (.cells #[.slice none 0 0,.int .i64 0,.int .i64 0] 85)) w.heap.size (.slice ao Z cap) (i:Nat) 0):=(VI w (.slice ao Z cap) (i:Nat) 0 85).below ((Below.refl _ _).alloc (Nat.le_refl _) _);have R2:dm (L5m ((w.alloc (.cells #[.slice ao Z cap,.int .i64 (i:Nat),.int .i64 0] 85)).alloc (.cells #[.slice none 0 0,.int .i64 0,.int .i64 0] 85)) (w.heap.size+1) (.slice none 0 0) 0 0):=jM;have L2:dm (Below w.heap.size w ((w.alloc (.cells #[.slice ao Z cap,.int .i64 (i:Nat),.int .i64 0] 85)).alloc (.cells #[.slice none 0 0,.int .i64 0,.int .i64 0] 85))):=((Below.refl _ _).alloc (Nat.le_refl _) _).alloc dr _;clear HX ar L o z an ax HR Q ab ai;by_cases a:k<15
    ·have aq:((k:Int)<15):=dk
     have h8:¬((i:Int)+(k:Int)<8*(Z:Int)):=dk;exact ot
    ·have aq:¬((k:Int)<15):=dk
     exact ot
 ·have ah:(cl != 0)=true:=dX
  have E:sy zs (i,cl) tb=((i,cl),0):=by unfold sy;rw [if_neg I]
  rw [E];clear I hr hz hcd E;generalize hL:zs.length=Z at*;clear hL;go_enter func120,ntmps120;go_wp2_with fail;exact bodyPost_ret (v:=.tuple #[.agg #[.slice ao Z cap,.int .i64 (i:Nat),.int .i64 cl],.int .i64 0]) (by simp [results,results120,go_sem]) rfl ⟨rfl,((Below.refl _ _).alloc (Nat.le_refl _) _).alloc dr _⟩
end
end Go.Proofs.YtgginbpmebgkcaaGreatDoor
namespace Go.Proofs.YtgginbpmebgkcaaGreatDoor
open Go.RowKit Go.Proofs.Tryz
set_option linter.unusedVariables false
set_option maxRecDepth 100000
set_option maxHeartbeats 25600000
section
variable{c c':LC}{zs:List Int}{v:Int}{t:Nat}
theorem Qjd(hs:addS c v t=.inl c')(h6:c'.st=6):(c'.lens.length:Int)=c'.f 2+c'.f 3:=by
 unfold addS at hs;repeat' (split at hs)
 all_goals first|(cases hs;done)|(injection hs with hs;subst hs;dsimp only at h6 ⊢;first|(exfalso;omega)|(rw [List.length_append,List.length_replicate];omega))
theorem QjN(h5:c.st<=5)(hs:Qx zs c=.inl c')(h6:c'.st=6):(c'.lens.length:Int)=c'.f 2+c'.f 3:=by
 unfold Qx at hs;split at hs
 ·unfold QS at hs
  repeat' (split at hs)
  all_goals first|(cases hs;done)|(injection hs with hs;subst hs;cases h6)
 ·split at hs
  ·unfold QF at hs
   repeat' (split at hs)
   all_goals first|(cases hs;done)|(injection hs with hs;subst hs;cases h6)
  ·split at hs
   ·unfold QE at hs
    repeat' (split at hs)
    all_goals first|(cases hs;done)|(injection hs with hs;subst hs;cases h6)
   ·split at hs
    ·unfold QX at hs
     repeat' (split at hs)
     all_goals first|(cases hs;done)|(injection hs with hs;subst hs;cases h6)
    ·split at hs
     ·unfold Vq at hs
      repeat' (split at hs)
      all_goals first|exact Qjd hs h6|(cases hs;done)|(injection hs with hs;subst hs;cases h6)
     ·unfold Vs at hs
      repeat' (split at hs)
      all_goals first|exact Qjd hs h6|(cases hs;done)|(injection hs with hs;subst hs;cases h6)
theorem Vy.kinds{cf:LC}{k:Int}(h:Vy zs c k cf):k=1\/k=2\/k=3:=by
 obtain ⟨n,M⟩:=h;induction n generalizing c with
 | zero=>exact M.elim
 | succ n ih=>
  rcases M with ⟨_,h,_⟩|⟨_,E⟩|⟨_,c',_,h3⟩
  ·exact .inl h
  ·exact .inr (Qbj E)
  ·exact ih h3
theorem Qhp(hs:addS c v t=.inl c'):c'.i=c.i:=by
 unfold addS at hs;repeat' (split at hs)
 all_goals first|(cases hs;done)|(injection hs with hs;subst hs;rfl)
theorem QmK(h5:c.st<=5)(hi:c.i<=8*zs.length)(hs:Qx zs c=.inl c'):c'.i<=8*zs.length:=by
 unfold Qx at hs;split at hs
 ·exact oY
 ·split at hs
  ·exact oZ
  ·split at hs
   ·exact o5
   ·split at hs
    ·exact o7
    ·split at hs
     ·have hm:Nat.min (8*zs.length-c.i) 15<=8*zs.length-c.i:=Nat.min_le_left _ _
      generalize Nat.min (8*zs.length-c.i) 15=n at*;unfold Vq at hs;split at hs
      ·rename_i J
       have h2:=(QaP J).2;repeat' (split at hs)
       all_goals first|(have:=Qhp hs;dsimp only at this;omega)|(cases hs;done)|(injection hs with hs;subst hs;dsimp only;omega)
      ·exact eR
     ·exact o8
def lc0(i:Nat):LC:=⟨0,i,fun _=>0,[],[]⟩
end
end Go.Proofs.YtgginbpmebgkcaaGreatDoor
