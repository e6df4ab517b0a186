import Derived.Test.YtgginbpmebgkcaaGreatDoorMBN
import Derived.Test.YtgginbpmebgkcaaGreatDoorMBV
namespace Go.Proofs.YtgginbpmebgkcaaGreatDoor
open Go.RowKit Go.Proofs.Tryz
set_option linter.unusedVariables false
set_option maxRecDepth 100000
set_option maxHeartbeats 25600000
section
section
variable {zs : List Int} {z q : Nat} {k : Int} {cf : GC} {out : List Int} {nm ph : Nat} {P : GC → Prop} {r : RR}
theorem QkS{k:Int}{c:GC}(hm:c.mm≠0):QbG k (Qy c)=k:=if_neg (fun x=>hm x.2.1)
theorem QgQ(hz:Qh zs)(hzl:zs.length<=63){c:GC}{ki:Int}{x cfi:IC}(h:Vv 32768 zs x ki cfi)(h10:c.ph=10)(hb:c.bad=false)(hok:GOK zs {c with ic:=x})(hfr:c.fr=false)(hE:Vo (VD z q) (QT zs) {c with ic:=x} k cf):
  (ki≠1->QbG k cf=ki)/\(ki=1->cfi.st=16/\GOK zs {c with ic:=cfi}/\Vo (VD z q) (QT zs) {c with ic:=cfi} k cf):=by
 obtain ⟨n,M⟩:=h;induction n generalizing x with
 | zero=>exact M.elim
 | succ n ih=>
  have hW:=hok.use hfr;rcases M with ⟨J,rfl,rfl⟩|⟨J,E⟩|⟨J,c',E,h3⟩
  ·refine ⟨fun e=>absurd rfl e,fun _=>⟨?_,hok,hE⟩⟩
   have:cfi.st<=16:=hW.s16;omega
  ·refine ⟨fun _=>?_,fun e=>by have:=QO E;omega⟩
   have af:Qn zs {c with ic:=x}=.inr (ki,Qy {c with ic:=x}):=sD;obtain ⟨e1,e2⟩:=(Vo.bad (Qan z q {c with ic:=x} hb) (Qbm af)).det hE;rw [<-e1,<-e2];have hm:({c with ic:=x}:GC).mm=3:=hok.mm.2 (by show c.ph≠0;omega);exact QkS dk
  ·have af:Qn zs {c with ic:=x}=.inl {c with ic:=c'}:=sD
   exact ih (Qa6 hz hzl hok hb af).1 (hE.next (Qan z q {c with ic:=x} hb) (QaU hz hzl hok hb af)) h3
theorem Qoy{i:Nat}{c:Int}(data:List Int)(h:c≠0):gT zs (i,c) data=(i,c):=by
 have e1:alP (i,c)=(i,c):=by unfold alP;rw [if_neg h]
 have e2:∀b,suP (i,c) b=(i,c):=fun b=>by unfold suP;rw [if_neg (fun x=>h x.1)]
 unfold gT;rw [e1,QaD (r:=(i,c)) h];dsimp only;rw [e2,QaD (r:=(i,c)) h];dsimp only;rw [e2]
theorem Qqa(hz:Qh zs)(hzl:zs.length<=63){c:GC}{data:List Int}(h10:c.ph=10)(h16:c.ic.st=16)(hb:c.bad=false)(hok:GOK zs c)(hE:Vo (VD z q) (QT zs) c k cf)(hout:c.ic.u=out++data)(hst:c.st=out.length)(hnm:c.nm=nm)(hl:(out++data).length<=100000):
  GAt zs z q k cf (out++data) (if (gT zs (c.ic.lc.i,0) data).2=0 then nm+1 else nm) 0 (P0 zs) (gT zs (c.ic.lc.i,0) data):=by
 have hm:c.mm=3:=hok.mm.2 dk;have ar:=hok.le;have ho:Qh (out++data):=by rw [<-hout];exact hok.oo
 have hd:c.ic.u.drop c.st=data:=by rw [hout,hst,List.drop_left]
 have ai:c.ic.u.length-c.st=data.length:=by rw [hout,hst,List.length_append];omega
 have u:alP (c.ic.lc.i,0)=((c.ic.lc.i+7)/8*8,0):=jQ;obtain ⟨j,hj⟩:=dt ((c.ic.lc.i+7)/8*8);have f:Qn zs c=if j+32<=8*zs.length then (if field (bnum zs) j 32=crcU 0 data then .inl {c with ph:=11,ic:=Vl c.ic (j+32)} else .inr (4,Qy c)) else .inr (2,Qy c):=by
  unfold Qn;rw [if_neg dk,if_neg dk,if_neg dk,if_neg dk,if_neg dk,if_neg dk,if_neg dk,if_neg dk,if_neg dk,if_neg dk,if_pos h10,if_neg dk,hj,hd]
 have g:∀(k2:Int) (c1:GC) (i' nm':Nat),c1.bad=false->c1.mm≠0->Vo (VD z q) (QT zs) c1 k cf->Qn zs c1=.inr (k2,Qy c1)->k2≠0->k2≠1->i'<=8*zs.length->GAt zs z q k cf (out++data) nm' 0 (P0 zs) (i',k2):=fun k2 c1 i' nm' g1 g2 g3 g4 g5 g6 g7=>by
  obtain ⟨e1,e2⟩:=(Vo.bad (Qan z q c1 g1) (Qbm g4)).det g3;refine ⟨g7,hl,ho,fun _=>⟨?_,g6⟩,fun e=>absurd e g5⟩;rw [<-e1,<-e2];exact QkS g2
 by_cases M:j+32<=8*zs.length
 ·by_cases V:field (bnum zs) j 32=crcU 0 data
  ·rw [if_pos M,if_pos V] at f
   have a:=(Qa6 hz hzl hok hb f).1;have aj:=hE.next (Qan z q c hb) (QaU hz hzl hok hb f);have l:gT zs (c.ic.lc.i,0) data=suP (tk zs (j+32,0) 32).1 (decide ((tk zs (j+32,0) 32).2≠data.length)):=by
    unfold gT;rw [u,hj,QG M];dsimp only;rw [decide_eq_false (fun x=>x V),QkX]
   have h:Qn zs {c with ph:=11,ic:=Vl c.ic (j+32)}=if j+32+32<=8*zs.length then (if field (bnum zs) (j+32) 32=data.length then .inl ⟨0,0,0,c.xs,0,c.ic.u.length,c.nm+1,c.fr,Vl (Vl c.ic (j+32)) (j+32+32),false⟩ else .inr (4,Qy {c with ph:=11,ic:=Vl c.ic (j+32)})) else .inr (2,Qy {c with ph:=11,ic:=Vl c.ic (j+32)}):=by
    rw [<-ai];rfl
   rw [l];by_cases d:j+32+32<=8*zs.length
   ·rw [QG d]
    dsimp only;by_cases al:field (bnum zs) (j+32) 32=data.length
    ·rw [decide_eq_false (fun x=>x al),QkX,if_pos rfl]
     rw [if_pos d,if_pos al] at h;have n:=(Qa6 hz hzl a hb h).1;refine ⟨d,hl,ho,fun e=>absurd rfl e,fun _=>⟨_,rfl,rfl,rfl,n,aj.next (Qan z q _ hb) (QaU hz hzl a hb h),hout,?_,rfl⟩⟩;show c.nm+1=nm+1;rw [hnm]
    ·rw [decide_eq_true al,QfC]
     rw [if_pos d,if_neg al] at h;exact g 4 {c with ph:=11,ic:=Vl c.ic (j+32)} _ _ hb (by show c.mm≠0;omega) aj h dn dn d
   ·rw [Vm d]
    dsimp only;have e:∀b,suP (j+32,2) b=(j+32,2):=fun b=>lR
    rw [e];rw [if_neg d] at h;exact g 2 {c with ph:=11,ic:=Vl c.ic (j+32)} _ _ hb (by show c.mm≠0;omega) aj h dn dn M
  ·rw [if_pos M,if_neg V] at f
   have l:gT zs (c.ic.lc.i,0) data=(j+32,4):=by
    unfold gT;rw [u,hj,QG M];exact sE
   rw [l];exact g 4 _ _ _ hb dk hE f dn dn M
 ·rw [if_neg M] at f
  have e:∀b,suP (j,2) b=(j,2):=fun b=>lR
  have l:gT zs (c.ic.lc.i,0) data=(j,2):=by
   unfold gT;rw [u,hj,Vm M];dsimp only;rw [e,QaD (show ((2:Int))≠0 by decide)];dsimp only;rw [e]
  rw [l];exact g 2 _ _ _ hb dk hE f dn dn dk
theorem QqC(hz:Qh zs)(hzl:zs.length<=63)(h:GAt zs z q k cf out nm 10 (PG out) r):∃ki cfi,Qh cfi.u/\Vu 32768 zs out 0 ki cfi 7 (fun _=>True) r []/\∀(i4:Nat) (c4:Int) (data:List Int),i4<=8*zs.length->(c4≠0->ki=c4/\ki≠1)->(c4=0->ki=1/\cfi.lc.i=i4)->cfi.u=out++data->(out++data).length<=100000->GAt zs z q k cf (out++data) (if (gT zs (i4,c4) data).2=0 then nm+1 else nm) 0 (P0 zs) (gT zs (i4,c4) data):=by
 by_cases H:r.2=0
 ·obtain ⟨c,g1,g2,g3,g4,g5,g6,g7,Y,g9,gA,d⟩:=h.yes H
  have hW:=g4.use gA;obtain ⟨ki,cfi,hI⟩:=Vv.ex (s:=32768) dk _ c.ic hW (Nat.lt_succ_self _);have ah:=hI.octJ hz dk hW (g4.inf g1);refine ⟨ki,cfi,ah,⟨⟨Nat.le_refl _,sF⟩,h.le,fun e=>absurd H e,fun _=>⟨c.ic,Y,g2,hW,?_,?_,hI,trivial⟩⟩,fun i4 c4 data a0 a1 a2 a3 a4=>?_⟩
  ·rw [g6];simp
  ·rw [g9];rfl
  ·obtain ⟨b1,b2⟩:=QgQ hz hzl hI g1 g3 g4 gA g5
   by_cases hk:ki=1
   ·have I:c4=0:=by
     by_cases I:c4=0
     ·exact I
     ·exact absurd hk (a1 I).2
    obtain ⟨_,aL⟩:=a2 I;subst I;subst aL;obtain ⟨c1,c2,c3⟩:=b2 hk;exact Qqa (c:={c with ic:=cfi}) hz hzl g1 c1 g3 c2 c3 a3 d g7 a4
   ·have I:c4≠0:=fun e=>hk (a2 e).1
    obtain ⟨e1,_⟩:=a1 I;rw [Qoy data I];refine ⟨a0,a4,by rw [<-a3];exact ah,fun _=>⟨?_,by rw [<-e1];exact hk⟩,fun e=>absurd e I⟩;rw [b1 hk,e1]
 ·obtain ⟨O,J⟩:=h.no H
  refine ⟨r.2,{icA 0 [] with u:=out},h.oo,⟨⟨Nat.le_refl _,sF⟩,h.le,fun _=>⟨rfl,J,dr⟩,fun e=>absurd e H⟩,fun i4 c4 data a0 a1 a2 a3 a4=>?_⟩;have I:c4≠0:=fun e=>J (a2 e).1
  obtain ⟨e1,_⟩:=a1 I;rw [Qoy data I];have ho:Qh (out++data):=by rw [<-a3];exact h.oo
  exact ⟨a0,a4,ho,fun _=>⟨by rw [O,e1],by rw [<-e1];exact J⟩,fun e=>absurd e I⟩
theorem QrF(hE:Vo (VD z q) (QT zs) gc0 k cf):GAt zs z q k cf [] 0 0 (P0 zs) (0,0):=
 ⟨Nat.zero_le _,Nat.zero_le _,(fun v hv=>d9),fun e=>absurd rfl e,fun _=>⟨gc0,rfl,rfl,rfl,Qfz zs,hE,rfl,rfl,rfl⟩⟩
theorem GAt.nm_le(h:GAt zs z q k cf out nm 0 (P0 zs) r)(h0:r.2=0):nm<=zs.length:=by
 obtain ⟨c,g1,g2,g3,g4,g5,g6,g7,Y⟩:=h.yes h0;have:=g4.nm;have:=g4.le;omega
theorem GAt.stop(h:GAt zs z q k cf out nm 0 (P0 zs) r)(h0:r.2=0)(hi:¬r.1<8*zs.length)(hn:0<nm):QbG k cf=1:=by
 obtain ⟨c,g1,g2,g3,g4,g5,g6,g7,Y⟩:=h.yes h0;have E:Qn zs c=.inr (2,Qy c):=by
  unfold Qn;rw [if_pos g1,if_neg dk]
 obtain ⟨e1,e2⟩:=(Vo.bad (Qan z q c g3) (Qbm E)).det g5;rw [<-e1,<-e2];exact if_pos ⟨rfl,Y,by show 0<c.nm;omega⟩
theorem Qj8{c c':GC}(hb:c.bad=false)(hs:Qn zs c=.inl c'):c'.bad=false:=by
 unfold Qn at hs;by_cases H:c.ph=0
 ·rw [if_pos H] at hs
  repeat' (split at hs)
  all_goals first|(cases hs;done)|(injection hs with hs;subst hs;first|exact hb|rfl)
 rw [if_neg H] at hs;by_cases J:c.ph=1
 ·rw [if_pos J] at hs
  repeat' (split at hs)
  all_goals first|(cases hs;done)|(injection hs with hs;subst hs;first|exact hb|rfl)
 rw [if_neg J] at hs;by_cases h2:c.ph=2
 ·rw [if_pos h2] at hs
  repeat' (split at hs)
  all_goals first|(cases hs;done)|(injection hs with hs;subst hs;first|exact hb|rfl)
 rw [if_neg h2] at hs;by_cases h3:c.ph=3
 ·rw [if_pos h3] at hs
  repeat' (split at hs)
  all_goals first|(cases hs;done)|(injection hs with hs;subst hs;first|exact hb|rfl)
 rw [if_neg h3] at hs;by_cases h4:c.ph=4
 ·rw [if_pos h4] at hs
  repeat' (split at hs)
  all_goals first|(cases hs;done)|(injection hs with hs;subst hs;first|exact hb|rfl)
 rw [if_neg h4] at hs;by_cases U:c.ph=5
 ·rw [if_pos U] at hs
  repeat' (split at hs)
  all_goals first|(cases hs;done)|(injection hs with hs;subst hs;first|exact hb|rfl)
 rw [if_neg U] at hs;by_cases h6:c.ph=6
 ·rw [if_pos h6] at hs
  repeat' (split at hs)
  all_goals first|(cases hs;done)|(injection hs with hs;subst hs;first|exact hb|rfl)
 rw [if_neg h6] at hs;by_cases h7:c.ph=7
 ·rw [if_pos h7] at hs
  repeat' (split at hs)
  all_goals first|(cases hs;done)|(injection hs with hs;subst hs;first|exact hb|rfl)
 rw [if_neg h7] at hs;by_cases h8:c.ph=8
 ·rw [if_pos h8] at hs
  repeat' (split at hs)
  all_goals first|(cases hs;done)|(injection hs with hs;subst hs;first|exact hb|rfl)
 rw [if_neg h8] at hs;by_cases h9:c.ph=9
 ·rw [if_pos h9] at hs
  repeat' (split at hs)
  all_goals first|(cases hs;done)|(injection hs with hs;subst hs;first|exact hb|rfl)
 rw [if_neg h9] at hs;by_cases u:c.ph=10
 ·rw [if_pos u] at hs
  repeat' (split at hs)
  all_goals first|(cases hs;done)|(injection hs with hs;subst hs;first|exact hb|rfl)
 rw [if_neg u] at hs;by_cases D:c.ph=11
 ·rw [if_pos D] at hs
  repeat' (split at hs)
  all_goals first|(cases hs;done)|(injection hs with hs;subst hs;first|exact hb|rfl)
 rw [if_neg D] at hs;cases hs
theorem Qfr{c:GC}{x:Int×GC}(hs:Qn zs c=.inr x):x.1≠1/\x.2=Qy c:=by
 unfold Qn at hs;by_cases H:c.ph=0
 ·rw [if_pos H] at hs
  repeat' (split at hs)
  all_goals first|(cases hs;done)|(injection hs with hs;rw [<-hs];exact ⟨(show (2:Int)≠1 by decide),rfl⟩)|(injection hs with hs;rw [<-hs];exact ⟨(show (3:Int)≠1 by decide),rfl⟩)|(injection hs with hs;rw [<-hs];exact ⟨(show (4:Int)≠1 by decide),rfl⟩)|(rename_i hi;injection hs with hs;rw [<-hs];exact ⟨d5,rfl⟩)
 rw [if_neg H] at hs;by_cases J:c.ph=1
 ·rw [if_pos J] at hs
  repeat' (split at hs)
  all_goals first|(cases hs;done)|(injection hs with hs;rw [<-hs];exact ⟨(show (2:Int)≠1 by decide),rfl⟩)|(injection hs with hs;rw [<-hs];exact ⟨(show (3:Int)≠1 by decide),rfl⟩)|(injection hs with hs;rw [<-hs];exact ⟨(show (4:Int)≠1 by decide),rfl⟩)|(rename_i hi;injection hs with hs;rw [<-hs];exact ⟨d5,rfl⟩)
 rw [if_neg J] at hs;by_cases h2:c.ph=2
 ·rw [if_pos h2] at hs
  repeat' (split at hs)
  all_goals first|(cases hs;done)|(injection hs with hs;rw [<-hs];exact ⟨(show (2:Int)≠1 by decide),rfl⟩)|(injection hs with hs;rw [<-hs];exact ⟨(show (3:Int)≠1 by decide),rfl⟩)|(injection hs with hs;rw [<-hs];exact ⟨(show (4:Int)≠1 by decide),rfl⟩)|(rename_i hi;injection hs with hs;rw [<-hs];exact ⟨d5,rfl⟩)
 rw [if_neg h2] at hs;by_cases h3:c.ph=3
 ·rw [if_pos h3] at hs
  repeat' (split at hs)
  all_goals first|(cases hs;done)|(injection hs with hs;rw [<-hs];exact ⟨(show (2:Int)≠1 by decide),rfl⟩)|(injection hs with hs;rw [<-hs];exact ⟨(show (3:Int)≠1 by decide),rfl⟩)|(injection hs with hs;rw [<-hs];exact ⟨(show (4:Int)≠1 by decide),rfl⟩)|(rename_i hi;injection hs with hs;rw [<-hs];exact ⟨d5,rfl⟩)
 rw [if_neg h3] at hs;by_cases h4:c.ph=4
 ·rw [if_pos h4] at hs
  repeat' (split at hs)
  all_goals first|(cases hs;done)|(injection hs with hs;rw [<-hs];exact ⟨(show (2:Int)≠1 by decide),rfl⟩)|(injection hs with hs;rw [<-hs];exact ⟨(show (3:Int)≠1 by decide),rfl⟩)|(injection hs with hs;rw [<-hs];exact ⟨(show (4:Int)≠1 by decide),rfl⟩)|(rename_i hi;injection hs with hs;rw [<-hs];exact ⟨d5,rfl⟩)
 rw [if_neg h4] at hs;by_cases U:c.ph=5
 ·rw [if_pos U] at hs
  repeat' (split at hs)
  all_goals first|(cases hs;done)|(injection hs with hs;rw [<-hs];exact ⟨(show (2:Int)≠1 by decide),rfl⟩)|(injection hs with hs;rw [<-hs];exact ⟨(show (3:Int)≠1 by decide),rfl⟩)|(injection hs with hs;rw [<-hs];exact ⟨(show (4:Int)≠1 by decide),rfl⟩)|(rename_i hi;injection hs with hs;rw [<-hs];exact ⟨d5,rfl⟩)
 rw [if_neg U] at hs;by_cases h6:c.ph=6
 ·rw [if_pos h6] at hs
  repeat' (split at hs)
  all_goals first|(cases hs;done)|(injection hs with hs;rw [<-hs];exact ⟨(show (2:Int)≠1 by decide),rfl⟩)|(injection hs with hs;rw [<-hs];exact ⟨(show (3:Int)≠1 by decide),rfl⟩)|(injection hs with hs;rw [<-hs];exact ⟨(show (4:Int)≠1 by decide),rfl⟩)|(rename_i hi;injection hs with hs;rw [<-hs];exact ⟨d5,rfl⟩)
 rw [if_neg h6] at hs;by_cases h7:c.ph=7
 ·rw [if_pos h7] at hs
  repeat' (split at hs)
  all_goals first|(cases hs;done)|(injection hs with hs;rw [<-hs];exact ⟨(show (2:Int)≠1 by decide),rfl⟩)|(injection hs with hs;rw [<-hs];exact ⟨(show (3:Int)≠1 by decide),rfl⟩)|(injection hs with hs;rw [<-hs];exact ⟨(show (4:Int)≠1 by decide),rfl⟩)|(rename_i hi;injection hs with hs;rw [<-hs];exact ⟨d5,rfl⟩)
 rw [if_neg h7] at hs;by_cases h8:c.ph=8
 ·rw [if_pos h8] at hs
  repeat' (split at hs)
  all_goals first|(cases hs;done)|(injection hs with hs;rw [<-hs];exact ⟨(show (2:Int)≠1 by decide),rfl⟩)|(injection hs with hs;rw [<-hs];exact ⟨(show (3:Int)≠1 by decide),rfl⟩)|(injection hs with hs;rw [<-hs];exact ⟨(show (4:Int)≠1 by decide),rfl⟩)|(rename_i hi;injection hs with hs;rw [<-hs];exact ⟨d5,rfl⟩)
 rw [if_neg h8] at hs;by_cases h9:c.ph=9
 ·rw [if_pos h9] at hs
  repeat' (split at hs)
  all_goals first|(cases hs;done)|(injection hs with hs;rw [<-hs];exact ⟨(show (2:Int)≠1 by decide),rfl⟩)|(injection hs with hs;rw [<-hs];exact ⟨(show (3:Int)≠1 by decide),rfl⟩)|(injection hs with hs;rw [<-hs];exact ⟨(show (4:Int)≠1 by decide),rfl⟩)|(rename_i hi;injection hs with hs;rw [<-hs];exact ⟨d5,rfl⟩)
 rw [if_neg h9] at hs;by_cases u:c.ph=10
 ·rw [if_pos u] at hs
  repeat' (split at hs)
  all_goals first|(cases hs;done)|(injection hs with hs;rw [<-hs];exact ⟨(show (2:Int)≠1 by decide),rfl⟩)|(injection hs with hs;rw [<-hs];exact ⟨(show (3:Int)≠1 by decide),rfl⟩)|(injection hs with hs;rw [<-hs];exact ⟨(show (4:Int)≠1 by decide),rfl⟩)|(rename_i hi;injection hs with hs;rw [<-hs];exact ⟨d5,rfl⟩)
 rw [if_neg u] at hs;by_cases D:c.ph=11
 ·rw [if_pos D] at hs
  repeat' (split at hs)
  all_goals first|(cases hs;done)|(injection hs with hs;rw [<-hs];exact ⟨(show (2:Int)≠1 by decide),rfl⟩)|(injection hs with hs;rw [<-hs];exact ⟨(show (3:Int)≠1 by decide),rfl⟩)|(injection hs with hs;rw [<-hs];exact ⟨(show (4:Int)≠1 by decide),rfl⟩)|(rename_i hi;injection hs with hs;rw [<-hs];exact ⟨d5,rfl⟩)
 rw [if_neg D] at hs;injection hs with hs;rw [<-hs];exact ⟨(show (0:Int)≠1 by decide),rfl⟩
theorem Qle(hz:Qh zs)(hzl:zs.length<=63):∀c,GOK zs c->c.bad=false->Vo (VD z q) (QT zs) c k cf->∃c1,GOK zs c1/\c1.bad=false/\Qn zs c1=.inr (k,cf):=by
 rintro c A hb ⟨n,M⟩;induction n generalizing c with
 | zero=>exact M.elim
 | succ n ih=>
  rcases M with ⟨J,_⟩|⟨J,E⟩|⟨J,c',E,h3⟩
  ·exact absurd J (Qan z q c hb)
  ·refine ⟨c,A,hb,?_⟩
   cases h:Qn zs c with
   | inl c'=>
    rw [QaU hz hzl A hb h] at E;cases E
   | inr x=>
    obtain ⟨k1,u⟩:=x;rw [Qbm h] at E;exact E
  ·obtain ⟨g1,g2⟩:=QgA E
   have a:=(Qa6 hz hzl A hb g1).1;have f:c'.bad=false:=Qj8 hb g1;exact ih c' a f h3
theorem QnM(hz:Qh zs)(hzl:zs.length<=63)(hE:Vo (VD z q) (QT zs) gc0 k cf)(h1:QbG k cf=1)(hn:cf.nm=1):field (bnum zs) (8*zs.length-64) 32=crcU 0 cf.ic.u:=by
 obtain ⟨c,A,hb,E⟩:=Qle hz hzl gc0 (Qfz zs) rfl hE;obtain ⟨hk,a⟩:=Qfr E;have hk:k≠1:=hk;have a:cf=Qy c:=a;subst a;unfold QbG at h1;split at h1
 ·rename_i hx
  obtain ⟨e2,hm,_⟩:=hx;subst e2;have hm:c.mm=0:=hm;have hn:c.nm=1:=hn;have H:c.ph=0:=by
   by_cases h:c.ph=0
   ·exact h
   ·have:=A.mm.2 h;omega
  have hi:c.ic.lc.i=8*zs.length:=by
   have ha:=A.al dk;have ar:=A.le;unfold Qn at E;rw [if_pos H] at E;split at E
   ·split at E
    ·cases E
    ·injection E with E
     injection E with E _;exact absurd E dn
   ·omega
  have:=A.j2 H hm hn;rw [hi] at this;exact this
 ·exact absurd h1 hk
end
end
section
variable{zs A d T R:List Int}{z q s p:Nat}{cf c:ZC}{k v:Int}
def Qoa(zs:List Int)(c:ZC):Prop:=32<=c.ic.lc.i/\c.ic.lc.i%8=0/\((rb4 (field (bnum zs) (c.ic.lc.i-32) 32):Nat):Int)=Adl.adl c.ic.u
theorem Qeq{c':ZC}(hs:Qs zs d c=.inl c'):c'.bad=false/\(c'.ph=3->Qoa zs c'):=by
 unfold Qs at hs;by_cases H:c.ph=0
 ·rw [if_pos H] at hs
  repeat' (split at hs)
  all_goals first|(cases hs;done)|(injection hs with hs;subst hs;exact ⟨rfl,fun e=>by have:(1:Nat)=3:=e;omega⟩)|(injection hs with hs;subst hs;exact ⟨rfl,fun e=>lS⟩)
 rw [if_neg H] at hs;by_cases J:c.ph=1
 ·rw [if_pos J] at hs
  repeat' (split at hs)
  all_goals first|(cases hs;done)|(injection hs with hs;subst hs;exact ⟨rfl,fun e=>lS⟩)
 rw [if_neg J] at hs;by_cases h2:c.ph=2
 ·rw [if_pos h2] at hs
  split at hs
  ·split at hs
   ·injection hs with hs;subst hs;exact ⟨rfl,fun e=>lS⟩
   ·cases hs
  ·split at hs
   ·split at hs
    ·rename_i V
     injection hs with hs;subst hs;refine ⟨rfl,fun _=>⟨?_,?_,?_⟩⟩
     ·show 32<=(c.ic.lc.i+7)/8*8+32;omega
     ·show ((c.ic.lc.i+7)/8*8+32)%8=0;omega
     ·show ((rb4 (field (bnum zs) ((c.ic.lc.i+7)/8*8+32-32) 32):Nat):Int)=Adl.adl c.ic.u
      rw [Nat.add_sub_cancel];exact V
    ·cases hs
   ·cases hs
 rw [if_neg h2] at hs;cases hs
theorem Qff{x:Int×ZC}(hs:Qs zs d c=.inr x):x.1≠1:=by
 unfold Qs at hs;by_cases H:c.ph=0
 ·rw [if_pos H] at hs
  repeat' (split at hs)
  all_goals first|(cases hs;done)|(injection hs with hs;rw [<-hs];exact (show (3:Int)≠1 by decide))|(injection hs with hs;rw [<-hs];exact (show (2:Int)≠1 by decide))
 rw [if_neg H] at hs;by_cases J:c.ph=1
 ·rw [if_pos J] at hs
  repeat' (split at hs)
  all_goals first|(cases hs;done)|(injection hs with hs;rw [<-hs];exact (show (5:Int)≠1 by decide))|(injection hs with hs;rw [<-hs];exact (show (2:Int)≠1 by decide))
 rw [if_neg J] at hs;by_cases h2:c.ph=2
 ·rw [if_pos h2] at hs
  split at hs
  ·split at hs
   ·cases hs
   ·rename_i hi
    injection hs with hs;rw [<-hs];have:=QO hi;dsimp only;omega
  ·repeat' (split at hs)
   all_goals first|(cases hs;done)|(injection hs with hs;rw [<-hs];exact (show (4:Int)≠1 by decide))|(injection hs with hs;rw [<-hs];exact (show (2:Int)≠1 by decide))
 rw [if_neg h2] at hs;injection hs with hs;rw [<-hs];exact (show (0:Int)≠1 by decide)
theorem Qm1(hzl:zs.length<=65536):∀c,ZOK zs d c->c.bad=false->(c.ph=3->Qoa zs c)->Vo (VZ z q) (VR zs d) c 1 cf->Qoa zs cf:=by
 rintro c A hb O ⟨n,M⟩;induction n generalizing c with
 | zero=>exact M.elim
 | succ n ih=>
  rcases M with ⟨J,_,rfl⟩|⟨J,E⟩|⟨J,c',E,h3⟩
  ·exact sH
  ·exfalso
   cases h:Qs zs d c with
   | inl c'=>
    rw [Vp hzl A hb h] at E;cases E
   | inr x=>
    exact sI
  ·obtain ⟨g1,g2⟩:=QdP E
   obtain ⟨q1,q2⟩:=Qeq g1;exact ih c' (Vn hzl A hb g1).1 q1 q2 h3
theorem Qpl(hzl:A.length<=65536){c:IC}:∀n (x:IC),RTo s A n x c->ZOK A d ⟨2,s,x,false⟩->Vo (VZ z q) (VR A d) ⟨2,s,x,false⟩ k cf->Vo (VZ z q) (VR A d) ⟨2,s,c,false⟩ k cf:=by
 intro n;induction n with
 | zero=>
  intro x h hx hE;have e:x=c:=h;rw [<-e];exact hE
 | succ n ih=>
  intro x h hx hE;obtain ⟨a,y,hy,h2⟩:=h;have E:Qs A d ⟨2,s,x,false⟩=.inl ⟨2,s,y,false⟩:=sv;exact ih y h2 (Vn hzl hx rfl E).1 (hE.next (QaW z q s x) (Vp hzl hx rfl E))
theorem QeZ(X:List Int)(hX:Qh X)(n m:Nat)(h:n+m<=X.length):field (bnum X) (8*(X.length-(n+m))) (8*n)=bnum ((X.drop (X.length-(n+m))).take n):=by
 have ht:Qh (X.take (X.length-(n+m))):=fun v hv=>hX v (List.mem_of_mem_take hv)
 have hd:Qh ((X.drop (X.length-(n+m))).take n):=fun v hv=>hX v (List.mem_of_mem_drop (List.mem_of_mem_take hv))
 have J:=Qa1 (X.take (X.length-(n+m))) ((X.drop (X.length-(n+m))).take n) ((X.drop (X.length-(n+m))).drop n) ht hd;rw [List.take_append_drop,List.take_append_drop,List.length_take,List.length_take,List.length_drop] at J;rw [show min (X.length-(n+m)) X.length=X.length-(n+m) by omega,show min n (X.length-(X.length-(n+m)))=n by omega] at J;exact J
theorem Qi8{pre e t:List Int}(hA:A=pre++(pk (Qr zs)++T))(hT:T.length=4)(hTo:Qh T)(hp:Qh pre)(hz:Qh zs)(hzl:zs.length<=1000)(hl:A.length<=65536)(hok:ZOK A e ⟨2,s,icA (8*pre.length) t,false⟩)(hE:Vo (VZ z q) (VR A e) ⟨2,s,icA (8*pre.length) t,false⟩ 1 cf):((rb4 (bnum T):Nat):Int)=Adl.adl zs:=by
 have f:=QiI pre T (Qr zs) (Qaw zs) hp;rw [<-hA] at f;obtain ⟨n,c,J,h2,h3,h4⟩:=QmW s pre.length [] zs A f hz lO (icA (8*pre.length) t) rfl rfl rfl;have r:=Qpl hl n _ J hok hE;have b:=QaB<|Qr zs
 have hj:(c.lc.i+7)/8*8=8*(pre++pk (Qr zs)).length:=by rw [h4,List.length_append,b];omega
 have Q:field (bnum A) (8*(pre++pk (Qr zs)).length) 32=bnum T:=by
  have J:=Qa1 (pre++pk (Qr zs)) T [] (fun x hx=>by
   rcases List.mem_append.1 hx with h|h
   ·exact hp x h
   ·exact QbN _ (Qaw zs) x h) hTo
  rw [hT,List.append_nil,List.append_assoc,<-hA] at J;exact J
 have ho:c.u=zs:=h3;by_cases V:((rb4 (bnum T):Nat):Int)=Adl.adl zs
 ·exact V
 ·exfalso
  have aP:A.length=pre.length+(pk (Qr zs)).length+4:=by rw [hA];simp only [List.length_append,hT];omega
  have E:Qs A e ⟨2,s,c,false⟩=.inr (4,⟨2,s,Vl c ((c.lc.i+7)/8*8+32),true⟩):=by
   unfold Qs;rw [if_neg ek,if_neg en,if_pos rfl,if_neg (by show ¬c.st<=15;omega)];show (if (c.lc.i+7)/8*8+32<=8*A.length then _ else _)=_;rw [if_pos (by rw [hj,List.length_append];omega)];show (if ((rb4 (field (bnum A) ((c.lc.i+7)/8*8) 32):Nat):Int)=Adl.adl c.u then _ else _)=_;rw [hj,Q,ho,if_neg V]
  have:=((Vo.bad (QaW z q s c) (VA E)).det r).1;omega
theorem QnP{I:Nat}(hI:I<8)(hA:A=QcS I d++(pk (Qr zs)++T))(hT:T.length=4)(hTo:Qh T)(hz:Qh zs)(hzl:zs.length<=1000)(hl:A.length<=65536)(hE:Vo (VZ z q) (VR A d) zc0 1 cf):((rb4 (bnum T):Nat):Int)=Adl.adl zs:=by
 have f:=QfV A d;by_cases hd:d=[]
 ·subst hd
  have r:A=zh2 I false++(pk (Qr zs)++T):=by rw [hA];unfold QcS;rw [if_pos rfl];rfl
  obtain ⟨J,h2,h3⟩:=QhU I hI false;rw [<-Qha I false hI (pk (Qr zs)++T),<-r] at J h2 h3;have c:2<=A.length:=by rw [r,List.length_append];show 2<=2+_;omega
  have E:Qs A [] zc0=.inl ⟨2,zsz (field (bnum A) 0 16),icA (8*(zh2 I false).length) (lastN (zsz (field (bnum A) 0 16)) []),false⟩:=by
   unfold Qs;rw [if_pos (show zc0.ph=0 from rfl),if_pos (by show 0+16<=8*A.length;omega),if_neg sJ,if_neg (by show ¬Qcg (field (bnum A) 0 16)=true;rw [h3];decide)];rfl
  exact Qi8 r hT hTo (QcG I false hI) hz hzl hl (Vn hl f rfl E).1 (hE.next (Qbk z q) (Vp hl f rfl E))
 ·have r:A=zh2 I true++(QI (rb4 (Adl.adl d).toNat) 4++(pk (Qr zs)++T)):=by rw [hA];unfold QcS;rw [if_neg hd,List.append_assoc];rfl
  obtain ⟨J,h2,h3⟩:=QhU I hI true;rw [<-Qha I true hI (QI (rb4 (Adl.adl d).toNat) 4++(pk (Qr zs)++T)),<-r] at J h2 h3;have c:6<=A.length:=by rw [r];simp only [List.length_append,QN];show 6<=2+_;omega
  have E:Qs A d zc0=.inl ⟨1,zsz (field (bnum A) 0 16),icA 16 [],false⟩:=by
   unfold Qs;rw [if_pos (show zc0.ph=0 from rfl),if_pos (by show 0+16<=8*A.length;omega),if_neg sJ,if_pos (by show Qcg (field (bnum A) 0 16)=true;exact h3)];rfl
  have b:((rb4 (field (bnum A) 16 32):Nat):Int)=Adl.adl d:=by
   have Q:=Qa1 (zh2 I true) (QI (rb4 (Adl.adl d).toNat) 4) (pk (Qr zs)++T) (QcG I true hI) (Qbw _ _);rw [QN,<-r] at Q;have B:field (bnum A) 16 32=bnum (QI (rb4 (Adl.adl d).toNat) 4):=Q;rw [B,QmN]
  have a:=(Vn hl f rfl E).1;have j:Qs A d ⟨1,zsz (field (bnum A) 0 16),icA 16 [],false⟩=.inl ⟨2,zsz (field (bnum A) 0 16),icA (8*(zh2 I true++QI (rb4 (Adl.adl d).toNat) 4).length) (lastN (zsz (field (bnum A) 0 16)) d),false⟩:=by
   have p:8*(zh2 I true++QI (rb4 (Adl.adl d).toNat) 4).length=16+32:=by rw [List.length_append,QN];rfl
   rw [p];unfold Qs;rw [if_neg f9,if_pos (show (1:Nat)=1 from rfl),if_pos (by show 16+32<=8*A.length;omega),if_neg (by
    rw [not_or];exact ⟨hd,by show ¬((rb4 (field (bnum A) 16 32):Nat):Int)≠Adl.adl d;rw [b];simp⟩)]
   rfl
  have aX:A=(zh2 I true++QI (rb4 (Adl.adl d).toNat) 4)++(pk (Qr zs)++T):=by rw [r,List.append_assoc]
  have au:Qh (zh2 I true++QI (rb4 (Adl.adl d).toNat) 4):=fun v hv=>by
   rcases List.mem_append.1 hv with h|h
   ·exact QcG I true hI v h
   ·exact Qbw _ _ v h
  exact Qi8 aX hT hTo au hz hzl hl (Vn hl a rfl j).1 ((hE.next (Qbk z q) (Vp hl f rfl E)).next (Qho z q _ _) (Vp hl a rfl j))
theorem Qok(hz:Qh zs)(hzl:zs.length<=1000)(ho:Qh ((zcode 7 d zs).set p v))(hE:Vo (VZ z q) (VR ((zcode 7 d zs).set p v) d) zc0 1 cf)(hR:Qo9 1 cf=((zcode 7 d zs).length:Int)):Adl.adl cf.ic.u=Adl.adl zs:=by
 have ai:=QlE 7 d zs hzl;obtain ⟨A,a⟩:=dt (zcode 7 d zs);rw [a] at ho hE hR ai;have hl:(A.set p v).length<=65536:=gl;obtain ⟨g1,g2,g3⟩:=Qm1 hl zc0 (QfV _ d) rfl (fun e=>by have:(0:Nat)=3:=e;omega) hE;unfold Qo9 at hR;rw [if_pos rfl] at hR;have hi:cf.ic.lc.i=8*A.length:=dk;have h4:A.length=(QcS 7 d++pk (Qr zs)).length+4:=by rw [<-a];unfold zcode;simp only [List.length_append,QN];omega
 have hA:A=(QcS 7 d++pk (Qr zs))++QI (rb4 (Adl.adl zs).toNat) 4:=by rw [<-a];unfold zcode;rw [List.append_assoc]
 have b:=QeZ (A.set p v) ho 4 0 gl;rw [List.length_set] at b;have f:field (bnum (A.set p v)) (cf.ic.lc.i-32) 32=bnum ((A.set p v).drop (A.length-4)):=by
  rw [hi,show 8*A.length-32=8*(A.length-(4+0)) by omega];refine b.trans ?_;rw [List.take_of_length_le lT]
 rw [f] at g3;by_cases N:p<A.length-4
 ·rw [List.drop_set_of_lt N] at g3
  have e:A.drop (A.length-4)=QI (rb4 (Adl.adl zs).toNat) 4:=by
   rw [show A.length-4=(QcS 7 d++pk (Qr zs)).length by omega];conv=>lhs;rw [hA]
   exact List.drop_left
  rw [e,QmN] at g3;exact g3.symm
 ·have e:A.set p v=QcS 7 d++(pk (Qr zs)++(A.set p v).drop (A.length-4)):=by
   have J:(A.set p v).take (A.length-4)=QcS 7 d++pk (Qr zs):=by
    rw [List.take_set_of_le dk,show A.length-4=(QcS 7 d++pk (Qr zs)).length by omega];conv=>lhs;rw [hA]
    exact List.take_left
   rw [<-List.append_assoc,<-J,List.take_append_drop]
  have c:Qh ((A.set p v).drop (A.length-4)):=fun x hx=>ho x (List.mem_of_mem_drop hx)
  have:=QnP dn e lT c hz hzl hl hE;rw [<-g3,<-this]
theorem Qj2(zs:List Int):Crc.crc zs=crcU 0 zs:=by
 unfold crcU Crc.crc;rw [Nat.zero_xor]
theorem Vv.ofR{c:IC}(h16:c.st=16):∀n (x:IC),RTo s A n x c->Vv s A x 1 c:=by
 intro n;induction n with
 | zero=>
  intro x h;have e:x=c:=h;rw [e];exact Vv.fin dk
 | succ n ih=>
  intro x h;obtain ⟨a,y,hy,h2⟩:=h;exact Vv.more a hy (ih y h2)
theorem QdM:Qh gH0:=fun v hv=>by
 simp only [gH0,List.mem_cons,List.not_mem_nil,or_false] at hv
 rcases hv with rfl|rfl|rfl|rfl|rfl|rfl|rfl|rfl|rfl|rfl<;>omega
theorem Qna(hA:A=gH0++R):field (bnum A) 0 8=31/\field (bnum A) 8 8=139/\field (bnum A) 16 8=8/\field (bnum A) 24 8=0:=by
 have o1:∀x:Int,0<=x->x<256->Qh [x]:=fun x h1 h2 v hv=>by simp only [List.mem_singleton] at hv;subst hv;exact ⟨h1,dk⟩
 refine ⟨?_,?_,?_,?_⟩
 ·have h:=Qa1 [] [31] ([139,8,0,0,0,0,0,0,0]++R) (fun v hv=>d9) (o1 31 dn dn)
  rw [hA];exact h
 ·have h:=Qa1 [31] [139] ([8,0,0,0,0,0,0,0]++R) (o1 31 dn dn) (o1 139 dn dn)
  rw [hA];exact h
 ·have h:=Qa1 [31,139] [8] ([0,0,0,0,0,0,0]++R) (fun v hv=>QdM v sK) (o1 8 dn dn)
  rw [hA];exact h
 ·have h:=Qa1 [31,139,8] [0] ([0,0,0,0,0,0]++R) (fun v hv=>QdM v sK) (o1 0 dn dn)
  rw [hA];exact h
theorem QlQ(hA:A=gH0++R):hdR A (0,0)=(80,0):=by
 obtain ⟨f0,f1,f2,f3⟩:=Qna hA;have hl:10<=A.length:=by rw [hA,List.length_append];show 10<=10+_;omega
 have a1:hdA A (0,0) 31=(8,0):=by unfold hdA;rw [QG dk];dsimp only;rw [f0];rfl
 have a2:hdA A (8,0) 139=(16,0):=by unfold hdA;rw [QG dk];dsimp only;rw [f1];rfl
 have q:hdA A (16,0) 8=(24,0):=by unfold hdA;rw [QG dk];dsimp only;rw [f2];rfl
 have a4:hdM A (0,0)=(24,0):=by unfold hdM;rw [a1,a2,q]
 have a5:hdF A (0,0)=0:=by unfold hdF;rw [a4,QG dk,f3]
 have a6:hdG A (0,0)=(32,0):=by unfold hdG;rw [a5,a4,QG dk];rfl
 have a7:hdN A (0,0)=(80,0):=by unfold hdN;rw [a6,QG dk];dsimp only;rw [QG dk];dsimp only;rw [QG dk]
 unfold hdR;rw [a5,a7];rfl
theorem Qnv{cf:GC}(hA:A=gH0++(pk (Qr zs)++T))(hT:T.length=8)(hTo:Qh T)(hz:Qh zs)(hzl:zs.length<=1000)(hl:A.length<=63)(hE:Vo (VD z q) (QT A) gc0 k cf)(h1:QbG k cf=1):field (bnum A) (8*(A.length-8)) 32=crcU 0 zs:=by
 have a:Qh A:=fun v V=>by
  rw [hA] at V;rcases List.mem_append.1 V with h|h
  ·exact QdM v h
  ·rcases List.mem_append.1 h with h|h
   ·exact QbN _ (Qaw zs) v h
   ·exact hTo v h
 have f:=QiI gH0 T (Qr zs) (Qaw zs) QdM;rw [<-hA] at f;have X:=Qlb a hl (QrF (zs:=A) hE) rfl (.inr rfl);rw [QlQ hA] at X;obtain ⟨c,g1,g2,g3,g4,g5,g6,g7,Y,g9,gA,d⟩:=X.yes rfl;obtain ⟨n,x,r1,r2,r3,U⟩:=QmW 32768 gH0.length [] zs A f hz lO c.ic Y g2 g6;obtain ⟨_,b2⟩:=QgQ a hl (Vv.ofR r2 n _ r1) g1 g3 g4 gA g5;obtain ⟨c1,c2,c3⟩:=b2 rfl;have o:x.u=[]++zs:=r3;have hW:=Qqa (c:={c with ic:=x}) (out:=[]) (data:=zs) a hl g1 c1 g3 c2 c3 o d g7 (by show zs.length<=_;omega);have b:=QaB<|Qr zs
 have aP:A.length=10+(pk (Qr zs)).length+8:=by rw [hA];simp only [List.length_append,hT];show 10+_=_;omega
 have hj:(x.lc.i+7)/8*8=8*(A.length-8):=by rw [U,aP];show (8*10+_+7)/8*8=_;omega
 by_cases V:field (bnum A) (8*(A.length-8)) 32=crcU 0 zs
 ·exact V
 ·exfalso
  have u:alP (x.lc.i,0)=(8*(A.length-8),0):=by unfold alP;rw [if_pos rfl,hj]
  have l:gT A (x.lc.i,0) zs=(8*(A.length-8)+32,4):=by
   unfold gT;rw [u,QG dk];exact sE
  have h2:=hW.no;have R:gT A ((({c with ic:=x}:GC).ic).lc.i,0) zs=(8*(A.length-8)+32,4):=l;rw [R] at h2;have h3:QbG k cf=4:=(h2 (show (4:Int)≠0 by decide)).1;rw [h1] at h3;exact absurd h3 dn
theorem QnQ{cf:GC}(hz:Qh zs)(hzl:zs.length<=1000)(hl:(gcode zs).length<=63)(ho:Qh ((gcode zs).set p v))(hE:Vo (VD z q) (QT ((gcode zs).set p v)) gc0 k cf)(h1:QbG k cf=1)(hn:cf.nm=1):crcU 0 cf.ic.u=crcU 0 zs:=by
 obtain ⟨A,a⟩:=dt (gcode zs);rw [a] at hl ho hE;have O:(A.set p v).length<=63:=by rw [List.length_set];exact hl
 have E:=QnM ho O hE h1 hn;rw [List.length_set] at E;have h8:A.length=(gH0++pk (Qr zs)).length+8:=by rw [<-a];unfold gcode;simp only [List.length_append,QN];omega
 have hA:A=(gH0++pk (Qr zs))++(QI (Crc.crc zs) 4++QI zs.length 4):=by rw [<-a];unfold gcode;rw [List.append_assoc]
 rw [show 8*A.length-64=8*(A.length-8) by omega] at E;rw [<-E];have b:=QeZ (A.set p v) ho 4 4 gl;rw [List.length_set] at b;by_cases N:p<A.length-8\/A.length-4<=p
 ·have K:(A.drop (A.length-8)).take 4=QI (Crc.crc zs) 4:=by
   have e:A.drop (A.length-8)=QI (Crc.crc zs) 4++QI zs.length 4:=by
    rw [show A.length-8=(gH0++pk (Qr zs)).length by omega];conv=>lhs;rw [hA]
    exact List.drop_left
   rw [e];exact List.take_left'<|QN _ _
  have e1:((A.set p v).drop (A.length-8)).take 4=(A.drop (A.length-8)).take 4:=by
   rcases N with N|N
   ·rw [List.drop_set_of_lt N]
   ·rw [List.drop_set,if_neg dk,List.take_set_of_le dk]
  have Z:Crc.crc zs<4294967296:=by rw [Qj2];exact Qd0 0 dn zs hz
  refine b.trans ?_;show bnum (((A.set p v).drop (A.length-8)).take 4)=_;rw [e1,K,QgN _ Z,Qj2]
 ·have e:A.set p v=gH0++(pk (Qr zs)++(A.set p v).drop (A.length-8)):=by
   have h1:(A.set p v).take (A.length-8)=gH0++pk (Qr zs):=by
    rw [List.take_set_of_le dk,show A.length-8=(gH0++pk (Qr zs)).length by omega];conv=>lhs;rw [hA]
    exact List.take_left
   rw [<-List.append_assoc,<-h1,List.take_append_drop]
  have c:Qh ((A.set p v).drop (A.length-8)):=fun x hx=>ho x (List.mem_of_mem_drop hx)
  have:=Qnv e lT c hz hzl O hE h1;rw [List.length_set] at this;exact this
end
end Go.Proofs.YtgginbpmebgkcaaGreatDoor
