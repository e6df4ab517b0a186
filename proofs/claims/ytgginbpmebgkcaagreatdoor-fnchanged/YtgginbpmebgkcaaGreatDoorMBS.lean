import Derived.Test.YtgginbpmebgkcaaGreatDoorMBI
import Derived.Test.YtgginbpmebgkcaaGreatDoorMBR
namespace Go.Proofs.YtgginbpmebgkcaaGreatDoor
open Go.RowKit Go.Proofs.Tryz
set_option linter.unusedVariables false
set_option maxRecDepth 100000
set_option maxHeartbeats 25600000
section
variable{zs:List Int}
theorem Qi1{s:Nat}{c c':IC}(hs:Qq s zs c=.inl c'):c.u.length<=c'.u.length:=by
 unfold Qq at hs;by_cases U:c.st<=5
 ·rw [if_pos U] at hs
  cases hl:Qx zs c.lc with
  | inl l=>
   rw [hl] at hs;injection hs with e;rw [<-e];exact ez
  | inr x=>rw [hl] at hs;cases hs
 rw [if_neg U] at hs;repeat' (split at hs)
 all_goals (try unfold QU at hs)
 all_goals (try unfold Vf at hs)
 all_goals (try unfold QW at hs)
 all_goals (try unfold Vk at hs)
 all_goals (try unfold Qw at hs)
 all_goals (try unfold QP at hs)
 all_goals (try unfold VS at hs)
 all_goals (try unfold Vj at hs)
 all_goals (try unfold VU at hs)
 all_goals (try unfold QL at hs)
 all_goals repeat' (split at hs)
 all_goals first|(cases hs;done)|(injection hs with e;rw [<-e];first|exact Nat.le_refl _|(dsimp only [QfD,Qap];rw [List.length_append];omega))
structure GC where
 ph:Nat
 mm:Nat
 fl:Nat
 xs:Nat
 hs:Nat
 st:Nat
 nm:Nat
 fr:Bool
 ic:IC
 bad:Bool
def Qy(c:GC):GC:={c with bad:=true}
def gAdv(zs:List Int)(c:GC)(n ph:Nat):GC:={c with ph:=ph,hs:=crcU c.hs ((zs.drop (c.ic.lc.i/8)).take n),ic:=Vl c.ic (c.ic.lc.i+8*n)}
def gMk(m:Nat):Nat:=if m=0 then 31 else if m=1 then 139 else 8
def gGo(c:GC)(i:Nat):GC:={c with ph:=10,fr:=false,ic:={Vl c.ic i with st:=7,t:=[]}}
def Qn(zs:List Int)(c:GC):GC⊕(Int×GC):=
 if c.ph=0 then
  if c.ic.lc.i+8<=8*zs.length then
   if field (bnum zs) c.ic.lc.i 8=gMk c.mm then .inl {gAdv zs c 1 (if c.mm=2 then 1 else 0) with mm:=c.mm+1} else .inr (3,Qy c)
  else .inr (2,Qy c)
 else if c.ph=1 then
  if c.ic.lc.i+8<=8*zs.length then
   if 31<field (bnum zs) c.ic.lc.i 8 then .inr (3,Qy c) else .inl {gAdv zs c 1 2 with fl:=field (bnum zs) c.ic.lc.i 8}
  else .inr (2,Qy c)
 else if c.ph=2 then if c.ic.lc.i+32<=8*zs.length then .inl (gAdv zs c 4 3) else .inr (2,Qy c)
 else if c.ph=3 then if c.ic.lc.i+8<=8*zs.length then .inl (gAdv zs c 1 4) else .inr (2,Qy c)
 else if c.ph=4 then if c.ic.lc.i+8<=8*zs.length then .inl (gAdv zs c 1 5) else .inr (2,Qy c)
 else if c.ph=5 then
  if hfl (c.fl:Nat) 4=true then
   if c.ic.lc.i+16<=8*zs.length then .inl {gAdv zs c 2 6 with xs:=field (bnum zs) c.ic.lc.i 16} else .inr (2,Qy c)
  else .inl {c with ph:=7}
 else if c.ph=6 then if c.ic.lc.i+8*c.xs<=8*zs.length then .inl (gAdv zs c c.xs 7) else .inr (2,Qy c)
 else if c.ph=7 then
  if hfl (c.fl:Nat) 8=true then
   if c.ic.lc.i+8<=8*zs.length then .inl (gAdv zs c 1 (if field (bnum zs) c.ic.lc.i 8=0 then 8 else 7)) else .inr (2,Qy c)
  else .inl {c with ph:=8}
 else if c.ph=8 then
  if hfl (c.fl:Nat) 16=true then
   if c.ic.lc.i+8<=8*zs.length then .inl (gAdv zs c 1 (if field (bnum zs) c.ic.lc.i 8=0 then 9 else 8)) else .inr (2,Qy c)
  else .inl {c with ph:=9}
 else if c.ph=9 then
  if hfl (c.fl:Nat) 2=true then
   if c.ic.lc.i+16<=8*zs.length then
    if field (bnum zs) c.ic.lc.i 16=c.hs%65536 then .inl (gGo c (c.ic.lc.i+16)) else .inr (4,Qy c)
   else .inr (2,Qy c)
  else .inl (gGo c c.ic.lc.i)
 else if c.ph=10 then
  if c.ic.st<=15 then
   match Qq 32768 zs c.ic with
   | .inl i'=>.inl {c with ic:=i'}
   | .inr (k,_)=>.inr (k,Qy c)
  else if (c.ic.lc.i+7)/8*8+32<=8*zs.length then
   if field (bnum zs) ((c.ic.lc.i+7)/8*8) 32=crcU 0 (c.ic.u.drop c.st) then .inl {c with ph:=11,ic:=Vl c.ic ((c.ic.lc.i+7)/8*8+32)}
   else .inr (4,Qy c)
  else .inr (2,Qy c)
 else if c.ph=11 then
  if c.ic.lc.i+32<=8*zs.length then
   if field (bnum zs) c.ic.lc.i 32=c.ic.u.length-c.st then .inl ⟨0,0,0,c.xs,0,c.ic.u.length,c.nm+1,c.fr,Vl c.ic (c.ic.lc.i+32),false⟩
   else .inr (4,Qy c)
  else .inr (2,Qy c)
 else .inr (0,Qy c)
def gmu(zs:List Int)(c:GC):Nat:=if c.ph=10 then 4*imu zs c.ic else 64*(8*zs.length-c.ic.lc.i)+(60-c.ph)
def QT(zs:List Int)(c:GC):GC⊕(Int×GC):=match Qn zs c with|.inl c'=>if gmu zs c'<gmu zs c then .inl c' else .inr (0,Qy c)|.inr x=>.inr x
structure GOK(zs:List Int)(c:GC):Prop where
 ph:c.ph<=11
 le:c.ic.lc.i<=8*zs.length
 al:c.ph≠10->c.ic.lc.i%8=0
 mm:(c.ph=0->c.mm<=2)/\(c.ph≠0->c.mm=3)
 fl:c.fl<=31/\(c.ph<=1->c.fl=0)
 oo:Qh c.ic.u
 ob:c.ic.u.length<=129*c.ic.lc.i
 st:c.st<=c.ic.u.length/\(c.ph<=9->c.st=c.ic.u.length)
 nm:8*c.nm<=c.ic.lc.i
 fre:c.fr=true->c.ph<=9/\c.ic=icA c.ic.lc.i []
 use:c.fr=false->Qag zs c.ic
 u16:c.fr=false->c.ph≠10->c.ic.st=16
 inf:c.ph=10->IBd 0 c.ic
 j0:c.ph<=10->c.nm=0->c.st=0
 j1:c.ph=11->c.nm=0->c.st=0/\field (bnum zs) (c.ic.lc.i-32) 32=crcU 0 c.ic.u
 j2:c.ph=0->c.mm=0->c.nm=1->field (bnum zs) (c.ic.lc.i-64) 32=crcU 0 c.ic.u
 hs0:c.ph=0->c.mm=0->c.hs=0
theorem Qag.to{c:IC}(h:Qag zs c)(h16:c.st=16){j:Nat}(hj:j<=8*zs.length):Qag zs (Vl c j):=by
 refine ⟨h.s16,hj,h.u,fun e=>?_,fun e=>h.rest e,fun e=>?_,fun e=>?_,fun e=>?_,fun e e2=>?_,fun e=>?_,fun e=>?_,fun e=>?_⟩
 ·have:c.st<=6:=e;omega
 ·have:c.st=6:=e;omega
 ·have:c.st=9\/c.st=10:=e;omega
 ·have:c.st=10:=e;omega
 ·have:c.st<=15:=e2;omega
 ·have:c.st=13:=e;omega
 ·have:c.st=14\/c.st=15:=e;omega
 ·have:c.st=15:=e;omega
theorem GOK.adv{c:GC}(h:GOK zs c)(h9:c.ph<=9)(ph mm fl xs hs i:Nat)(hp:ph<=9)(hi0:c.ic.lc.i<=i)(hi:i<=8*zs.length)(hal:i%8=0)(hmk:(ph=0->mm<=2/\mm≠0)/\(ph≠0->mm=3))(hfl:fl<=31/\(ph<=1->fl=0)):GOK zs ⟨ph,mm,fl,xs,hs,c.st,c.nm,c.fr,Vl c.ic i,false⟩:=by
 have P:=h.ob;have bo:=h.nm;refine ⟨by show ph<=11;omega,hi,fun _=>hal,⟨fun e=>(hmk.1 e).1,hmk.2⟩,hfl,h.oo,?_,⟨h.st.1,fun _=>h.st.2 h9⟩,?_,fun e=>⟨hp,?_⟩,fun e=>?_,fun e _=>h.u16 e dk,fun e=>?_,fun _=>h.j0 dk,fun e=>?_,fun e e2=>?_,fun e e2=>?_⟩
 ·show c.ic.u.length<=129*i;omega
 ·show 8*c.nm<=i;omega
 ·have J:=(h.fre e).2
  show Vl c.ic i=icA i [];rw [J];rfl
 ·exact (h.use e).to (h.u16 e dk) hi
 ·have:ph=10:=e;omega
 ·have:ph=11:=e;omega
 ·exact absurd e2 (hmk.1 e).2
 ·exact absurd e2 (hmk.1 e).2
theorem GOK.go{c:GC}(h:GOK zs c)(h9:c.ph=9)(hb:c.bad=false)(i:Nat)(hi0:c.ic.lc.i<=i)(hi:i<=8*zs.length)(hol:c.ic.u.length<=100000):GOK zs (gGo c i):=by
 have P:=h.ob;have bo:=h.nm;have x:c.ic.lc.st=0:=by
  cases hf:c.fr with
  | true=>rw [(h.fre hf).2];rfl
  | false=>exact (h.use hf).rest (by rw [h.u16 hf dk];omega)
 refine ⟨by show (10:Nat)<=11;omega,hi,fun e=>absurd rfl e,⟨fun e=>?_,fun _=>h.mm.2 dk⟩,⟨h.fl.1,fun e=>?_⟩,h.oo,?_,⟨h.st.1,fun e=>?_⟩,?_,fun e=>?_,fun _=>?_,fun _ e=>absurd rfl e,fun _=>?_,fun _=>h.j0 dk,fun e=>?_,fun e=>?_,fun e=>?_⟩
 ·have:(10:Nat)=0:=e;omega
 ·have:(10:Nat)<=1:=e;omega
 ·show c.ic.u.length<=129*i;omega
 ·have:(10:Nat)<=9:=e;omega
 ·show 8*c.nm<=i;omega
 ·cases e
 ·refine ⟨by show (7:Nat)<=16;omega,hi,hol,fun e=>?_,fun _=>x,fun e=>?_,fun e=>?_,fun e=>?_,fun e _=>?_,fun e=>?_,fun e=>?_,fun e=>?_⟩
  ·have:(7:Nat)<=6:=e;omega
  ·have:(7:Nat)=6:=e;omega
  ·have:(7:Nat)=9\/(7:Nat)=10:=e;omega
  ·have:(7:Nat)=10:=e;omega
  ·have:(12:Nat)<=7:=e;omega
  ·have:(7:Nat)=13:=e;omega
  ·have:(7:Nat)=14\/(7:Nat)=15:=e;omega
  ·have:(7:Nat)=15:=e;omega
 ·refine ⟨h.oo,fun v hv=>d9,?_⟩
  show c.ic.u.length+0<=0+129*i;omega
 ·have:(10:Nat)=11:=e;omega
 ·have:(10:Nat)=0:=e;omega
 ·have:(10:Nat)=0:=e;omega
theorem Qka{c:GC}(h:c.ph≠10):gmu zs c=64*(8*zs.length-c.ic.lc.i)+(60-c.ph):=by unfold gmu;rw [if_neg h]
theorem QaC{c c':GC}(h:c.ph≠10)(h':c'.ph≠10)(hp:c.ph<=11)(hx:(c.ic.lc.i<c'.ic.lc.i/\c'.ic.lc.i<=8*zs.length)\/(c.ic.lc.i=c'.ic.lc.i/\c.ph<c'.ph)):gmu zs c'<gmu zs c:=by
 rw [Qka h,Qka h'];omega
theorem Qa6{c c':GC}(hz:Qh zs)(hzl:zs.length<=63)(h:GOK zs c)(hb:c.bad=false)(hs:Qn zs c=.inl c'):GOK zs c'/\gmu zs c'<gmu zs c:=by
 have ar:=h.le;have P:=h.ob;have d:=h.ph;unfold Qn at hs;by_cases H:c.ph=0
 ·have T:=h.al dk
  rw [if_pos H] at hs;split at hs
  ·rename_i M
   split at hs
   ·injection hs with hs
    subst hs;have hm:=h.mm.1 H;have Q:=h.fl.2 dk;by_cases h2:c.mm=2
    ·simp only [if_pos h2,hb,gAdv]
     refine ⟨h.adv dk 1 (c.mm+1) c.fl c.xs _ (c.ic.lc.i+8) dk dk M dk ⟨fun e=>dk,fun _=>dk⟩ ⟨h.fl.1,fun _=>Q⟩,QaC dk (by show (1:Nat)≠10;omega) d (.inl ⟨?_,M⟩)⟩;exact eX
    ·simp only [if_neg h2,hb,gAdv]
     refine ⟨h.adv dk 0 (c.mm+1) c.fl c.xs _ (c.ic.lc.i+8) dk dk M dk ⟨fun e=>dk,fun e=>absurd rfl e⟩ ⟨h.fl.1,fun _=>Q⟩,QaC dk lr d (.inl ⟨?_,M⟩)⟩;exact eX
   ·cases hs
  ·cases hs
 rw [if_neg H] at hs;have K:=h.mm.2 H;by_cases J:c.ph=1
 ·have T:=h.al dk
  rw [if_pos J] at hs;split at hs
  ·rename_i M
   split at hs
   ·cases hs
   ·rename_i b
    injection hs with hs;subst hs;simp only [hb,gAdv];refine ⟨h.adv dk 2 c.mm _ c.xs _ (c.ic.lc.i+8) dk dk M dk ⟨fun e=>dk,fun _=>K⟩ ⟨dk,fun e=>dk⟩,QaC dk (by show (2:Nat)≠10;omega) d (.inl ⟨?_,M⟩)⟩;exact eX
  ·cases hs
 rw [if_neg J] at hs;by_cases h2:c.ph=2
 ·have T:=h.al dk
  rw [if_pos h2] at hs;split at hs
  ·rename_i M
   injection hs with hs;subst hs;simp only [hb,gAdv];refine ⟨h.adv dk 3 c.mm c.fl c.xs _ (c.ic.lc.i+32) dk dk M dk ⟨fun e=>dk,fun _=>K⟩ ⟨h.fl.1,fun e=>dk⟩,QaC dk (by show (3:Nat)≠10;omega) d (.inl ⟨?_,M⟩)⟩;show c.ic.lc.i<c.ic.lc.i+32;omega
  ·cases hs
 rw [if_neg h2] at hs;by_cases h3:c.ph=3
 ·have T:=h.al dk
  rw [if_pos h3] at hs;split at hs
  ·rename_i M
   injection hs with hs;subst hs;simp only [hb,gAdv];refine ⟨h.adv dk 4 c.mm c.fl c.xs _ (c.ic.lc.i+8) dk dk M dk ⟨fun e=>dk,fun _=>K⟩ ⟨h.fl.1,fun e=>dk⟩,QaC dk (by show (4:Nat)≠10;omega) d (.inl ⟨?_,M⟩)⟩;exact eX
  ·cases hs
 rw [if_neg h3] at hs;by_cases h4:c.ph=4
 ·have T:=h.al dk
  rw [if_pos h4] at hs;split at hs
  ·rename_i M
   injection hs with hs;subst hs;simp only [hb,gAdv];refine ⟨h.adv dk 5 c.mm c.fl c.xs _ (c.ic.lc.i+8) dk dk M dk ⟨fun e=>dk,fun _=>K⟩ ⟨h.fl.1,fun e=>dk⟩,QaC dk (by show (5:Nat)≠10;omega) d (.inl ⟨?_,M⟩)⟩;exact eX
  ·cases hs
 rw [if_neg h4] at hs;by_cases U:c.ph=5
 ·have T:=h.al dk
  rw [if_pos U] at hs;split at hs
  ·split at hs
   ·rename_i M
    injection hs with hs;subst hs;simp only [hb,gAdv];refine ⟨h.adv dk 6 c.mm c.fl _ _ (c.ic.lc.i+16) dk dk M dk ⟨fun e=>dk,fun _=>K⟩ ⟨h.fl.1,fun e=>dk⟩,QaC dk (by show (6:Nat)≠10;omega) d (.inl ⟨?_,M⟩)⟩;show c.ic.lc.i<c.ic.lc.i+16;omega
   ·cases hs
  ·injection hs with hs
   subst hs;have:=h.adv dk 7 c.mm c.fl c.xs c.hs c.ic.lc.i dk (Nat.le_refl _) ar T ⟨fun e=>dk,fun _=>K⟩ ⟨h.fl.1,fun e=>dk⟩;refine ⟨?_,QaC dk (by show (7:Nat)≠10;omega) d (.inr ⟨rfl,by show c.ph<7;omega⟩)⟩;rw [<-hb] at this;exact this
 rw [if_neg U] at hs;by_cases h6:c.ph=6
 ·have T:=h.al dk
  rw [if_pos h6] at hs;split at hs
  ·rename_i M
   injection hs with hs;subst hs;simp only [hb,gAdv];refine ⟨h.adv dk 7 c.mm c.fl c.xs _ (c.ic.lc.i+8*c.xs) dk dk M dk ⟨fun e=>dk,fun _=>K⟩ ⟨h.fl.1,fun e=>dk⟩,QaC dk (by show (7:Nat)≠10;omega) d ?_⟩;by_cases hx:c.xs=0
   ·right
    exact ⟨by show c.ic.lc.i=c.ic.lc.i+8*c.xs;omega,by show c.ph<7;omega⟩
   ·left
    exact ⟨by show c.ic.lc.i<c.ic.lc.i+8*c.xs;omega,M⟩
  ·cases hs
 rw [if_neg h6] at hs;by_cases h7:c.ph=7
 ·have T:=h.al dk
  rw [if_pos h7] at hs;split at hs
  ·split at hs
   ·rename_i M
    injection hs with hs;subst hs;simp only [hb,gAdv];refine ⟨h.adv dk _ c.mm c.fl c.xs _ (c.ic.lc.i+8) (by split<;>omega) dk M dk ⟨fun e=>iU,fun _=>K⟩ ⟨h.fl.1,fun e=>iU⟩,QaC dk (by show (if _ then (8:Nat) else 7)≠10;split<;>omega) d (.inl ⟨?_,M⟩)⟩;exact eX
   ·cases hs
  ·injection hs with hs
   subst hs;have:=h.adv dk 8 c.mm c.fl c.xs c.hs c.ic.lc.i dk (Nat.le_refl _) ar T ⟨fun e=>dk,fun _=>K⟩ ⟨h.fl.1,fun e=>dk⟩;refine ⟨?_,QaC dk (by show (8:Nat)≠10;omega) d (.inr ⟨rfl,by show c.ph<8;omega⟩)⟩;rw [<-hb] at this;exact this
 rw [if_neg h7] at hs;by_cases h8:c.ph=8
 ·have T:=h.al dk
  rw [if_pos h8] at hs;split at hs
  ·split at hs
   ·rename_i M
    injection hs with hs;subst hs;simp only [hb,gAdv];refine ⟨h.adv dk _ c.mm c.fl c.xs _ (c.ic.lc.i+8) (by split<;>omega) dk M dk ⟨fun e=>iU,fun _=>K⟩ ⟨h.fl.1,fun e=>iU⟩,QaC dk (by show (if _ then (9:Nat) else 8)≠10;split<;>omega) d (.inl ⟨?_,M⟩)⟩;exact eX
   ·cases hs
  ·injection hs with hs
   subst hs;have:=h.adv dk 9 c.mm c.fl c.xs c.hs c.ic.lc.i dk (Nat.le_refl _) ar T ⟨fun e=>dk,fun _=>K⟩ ⟨h.fl.1,fun e=>dk⟩;refine ⟨?_,QaC dk (by show (9:Nat)≠10;omega) d (.inr ⟨rfl,by show c.ph<9;omega⟩)⟩;rw [<-hb] at this;exact this
 rw [if_neg h8] at hs;have bj:∀i,c.ph=9->c.ic.lc.i<=i->i<=8*zs.length->GOK zs (gGo c i)/\gmu zs (gGo c i)<gmu zs c:=by
  intro i h9 aU hi;refine ⟨h.go h9 hb i aU hi dk,?_⟩;rw [Qka (c:=c) dk];unfold gmu;rw [if_pos (show (gGo c i).ph=10 from rfl)];show 4*(16*(8*zs.length-i)+irk 7)<_;have:irk 7=1:=rfl;omega
 by_cases h9:c.ph=9
 ·rw [if_pos h9] at hs
  split at hs
  ·split at hs
   ·rename_i M
    split at hs
    ·injection hs with hs
     subst hs;exact bj _ h9 dk M
    ·cases hs
   ·cases hs
  ·injection hs with hs
   subst hs;exact bj _ h9 (Nat.le_refl _) ar
 rw [if_neg h9] at hs;have af:c.fr=false:=by
  cases Q:c.fr with
  | true=>have:=(h.fre Q).1;omega
  | false=>rfl
 have hW:=h.use af;by_cases u:c.ph=10
 ·have hI:=h.inf u
  rw [if_pos u] at hs;split at hs
  ·rename_i a
   split at hs
   ·rename_i y hi
    injection hs with hs;subst hs;have A:=Qa3 hW a dk hi;have l:=QdS hz hW hI a hi;have Y:=Qi1 hi;have g:=A.1.le;have t:=l.bd;have bo:=h.nm;have bC:c.ic.lc.i<=y.lc.i:=by
     have J:=A.2;have h3:=QhI c.ic.st;have h4:=QhI y.st;unfold imu at J;omega
    refine ⟨⟨by show c.ph<=11;omega,g,fun e=>absurd u e,⟨fun e=>lu,fun _=>K⟩,⟨h.fl.1,fun e=>by have:c.ph<=1:=e;omega⟩,l.o,by show y.u.length<=129*y.lc.i;omega,⟨Nat.le_trans h.st.1 Y,fun e=>by have:c.ph<=9:=e;omega⟩,by show 8*c.nm<=y.lc.i;omega,fun e=>lv,fun _=>A.1,fun _ e=>absurd u e,fun _=>l,h.j0,fun e=>by have:c.ph=11:=e;omega,fun e=>lu,fun e=>lu⟩,?_⟩;unfold gmu;rw [if_pos u,if_pos (show ({c with ic:=y}:GC).ph=10 from u)];have:=A.2;show 4*imu zs y<4*imu zs c.ic;omega
   ·cases hs
  ·rename_i a
   have R:c.ic.st=16:=iV;split at hs
   ·rename_i M
    split at hs
    ·rename_i I
     injection hs with hs;subst hs;have bo:=h.nm;generalize hj:(c.ic.lc.i+7)/8*8=j at*;have G:j%8=0:=dk;refine ⟨⟨by show (11:Nat)<=11;omega,M,fun _=>by show (j+32)%8=0;omega,⟨fun e=>lx,fun _=>K⟩,⟨h.fl.1,fun e=>by have:(11:Nat)<=1:=e;omega⟩,h.oo,by show c.ic.u.length<=129*(j+32);omega,⟨h.st.1,fun e=>by have:(11:Nat)<=9:=e;omega⟩,by show 8*c.nm<=j+32;omega,fun e=>lv,fun _=>hW.to R M,fun _ _=>R,fun e=>by have:(11:Nat)=10:=e;omega,fun e=>by have:(11:Nat)<=10:=e;omega,fun _ e=>?_,fun e=>lx,fun e=>lx⟩,?_⟩
     ·have f:=h.j0 dk e
      refine ⟨f,?_⟩;show field (bnum zs) (j+32-32) 32=crcU 0 c.ic.u;rw [Nat.add_sub_cancel,I,f];rfl
     ·unfold gmu
      rw [if_pos u,if_neg (by show ¬(11:Nat)=10;omega)];show 64*(8*zs.length-(j+32))+(60-11)<4*imu zs c.ic;unfold imu;omega
    ·cases hs
   ·cases hs
 rw [if_neg u] at hs;by_cases D:c.ph=11
 ·rw [if_pos D] at hs
  have R:=h.u16 af dk;have T:=h.al dk;split at hs
  ·rename_i M
   split at hs
   ·rename_i I
    injection hs with hs;subst hs;have bo:=h.nm;refine ⟨⟨by show (0:Nat)<=11;omega,M,fun _=>by show (c.ic.lc.i+32)%8=0;omega,⟨fun _=>by show (0:Nat)<=2;omega,fun e=>absurd rfl e⟩,⟨by show (0:Nat)<=31;omega,fun _=>rfl⟩,h.oo,by show c.ic.u.length<=129*(c.ic.lc.i+32);omega,⟨Nat.le_refl _,fun _=>rfl⟩,by show 8*(c.nm+1)<=c.ic.lc.i+32;omega,fun e=>lv,fun _=>hW.to R M,fun _ _=>R,fun e=>by have:(0:Nat)=10:=e;omega,fun _ e=>by have:c.nm+1=0:=e;omega,fun e=>by have:(0:Nat)=11:=e;omega,fun _ _ e=>?_,fun _ _=>rfl⟩,QaC dk lr d (.inl ⟨by show c.ic.lc.i<c.ic.lc.i+32;omega,M⟩)⟩;have H:c.nm=0:=by have:c.nm+1=1:=e;omega
    have:=(h.j1 D H).2;show field (bnum zs) (c.ic.lc.i+32-64) 32=crcU 0 c.ic.u;rw [show c.ic.lc.i+32-64=c.ic.lc.i-32 by omega];exact this
   ·cases hs
  ·cases hs
 rw [if_neg D] at hs;cases hs
end
section
variable{z q B p hB cm Bm g e s n nm:Nat}{W W' wr w a b w0:World}{c:GC}{zs:List Int}{am:Option Addr}{xs:List Value}{C:Nat->Value}
theorem Qqr(args:Array Value)(W:World):Sem.run prog (callFunc 77 args) W=.ok (.enter 77 args) W:=by kernel_rfl
theorem Qqf(args:Array Value)(W:World):Sem.run prog (callFunc 116 args) W=.ok (.enter 116 args) W:=by kernel_rfl
theorem QqK(args:Array Value)(W:World):Sem.run prog (callFunc 162 args) W=.ok (.enter 162 args) W:=by kernel_rfl
theorem Qqx(args:Array Value)(W:World):Sem.run prog (callFunc 191 args) W=.ok (.enter 191 args) W:=by kernel_rfl
theorem QqL(args:Array Value)(W:World):Sem.run prog (callFunc 198 args) W=.ok (.enter 198 args) W:=by kernel_rfl
theorem QqI(args:Array Value)(W:World):Sem.run prog (callFunc 204 args) W=.ok (.enter 204 args) W:=by kernel_rfl
theorem Qqe(args:Array Value)(W:World):Sem.run prog (callFunc 209 args) W=.ok (.enter 209 args) W:=by kernel_rfl
theorem Qq5(args:Array Value)(W:World):Sem.run prog (callFunc 208 args) W=.ok (.enter 208 args) W:=by kernel_rfl
theorem QqB(args:Array Value)(W:World):Sem.run prog (callFunc 213 args) W=.ok (.enter 213 args) W:=by kernel_rfl
theorem QqH(args:Array Value)(W:World):Sem.run prog (callFunc 216 args) W=.ok (.enter 216 args) W:=by kernel_rfl
theorem Qpd(args:Array Value)(W:World):Sem.run prog (callFunc 78 args) W=.ok (.enter 78 args) W:=by kernel_rfl
theorem Qpw(args:Array Value)(W:World):Sem.run prog (callFunc 117 args) W=.ok (.enter 117 args) W:=by kernel_rfl
structure QaX(z q p hB B:Nat)(w0:World):Prop where
 glob:QfE w0
 marks:Qbq w0
 gB:3<=B
 Bw:B<=w0.heap.size
 bp:B<=p
 bq:B<=q
 bz:B<=z
 pq:q≠p
 zp:z≠p
 zq:z≠q
 hq:hB≠q
 hz:hB≠z
 gh:3<=hB
 zw:z<w0.heap.size
 qw:q<w0.heap.size
 pw:p<w0.heap.size
 hw:hB<w0.heap.size
structure QcR(z q B:Nat)(W:World)(c:GC):Prop where
 q1:∃old,W.cell? ⟨q,1,none⟩=some old
 qf:W.frozen? ⟨q,1,none⟩=false
 o30:∃oa oc,W.cell? ⟨q,30,none⟩=some (.slice oa c.ic.u.length oc)/\Qi 5 B W oa oc c.ic.u/\Qt oa≠some q
 z0:W.cell? ⟨z,0,none⟩=some (.pointer (some ⟨q,0,none⟩))
 z1:∃am cm,W.cell? ⟨z,1,none⟩=some (.slice am c.nm cm)
 z10:W.cell? ⟨z,10,none⟩=some (.int .i64 (c.mm:Nat))
theorem QcR.set(h:QcR z q B W c)(hzq:z≠q)(v:Value):QcR z q B (W.setCell ⟨q,1,none⟩ v) c:=by
 have O:=Qf W ⟨q,1,none⟩ v;obtain ⟨b,ho⟩:=h.q1;obtain ⟨oa,X,J,h2,h3⟩:=h.o30;obtain ⟨am,cm,h4⟩:=h.z1;exact ⟨⟨v,World.cell?_setCell_same _ _ _ ho⟩,by rw [World.frozen?_setCell];exact h.qf,⟨oa,X,(World.cell?_setCell_other _ _ _ _ dr).trans J,Qi.grown h2 O (fun k e e2=>by simp at e;subst e;exact h3 e2),h3⟩,O.cell h.z0 ew,⟨am,cm,O.cell h4 ew⟩,O.cell h.z10 ew⟩
theorem QcR.below(h:QcR z q B W c)(hb:Below W.heap.size W W'):QcR z q B W' c:=by
 obtain ⟨b,ho⟩:=h.q1;obtain ⟨oa,X,J,h2,h3⟩:=h.o30;obtain ⟨am,cm,h4⟩:=h.z1;have hq:=World.block_lt_of_cell? W _ ho;have r:=World.block_lt_of_cell? W _ h4;exact ⟨⟨b,(hb.cell (p:=⟨q,1,none⟩) hq).trans ho⟩,(World.frozen?_of_block (w:=W) (a:=⟨q,1,none⟩) (hb.block q hq)).trans h.qf,⟨oa,X,(hb.cell (p:=⟨q,30,none⟩) hq).trans J,Qi.below h2 hb,h3⟩,(hb.cell (p:=⟨z,0,none⟩) r).trans h.z0,⟨am,cm,(hb.cell (p:=⟨z,1,none⟩) r).trans h4⟩,(hb.cell (p:=⟨z,10,none⟩) r).trans h.z10⟩
theorem QcR.stop(h:QcR z q B W c):QcR z q B W (Qy c):=⟨h.q1,h.qf,h.o30,h.z0,h.z1,h.z10⟩
structure GHm(z q p hB B Bm:Nat)(zs:List Int)(W:World)(c:GC)(wr:World)(C:Nat->Value)(am:Option Addr)(cm:Nat)(xs:List Value):Prop where
 hd:VO z q p hB zs c.ic.lc.i c.hs C W
 gr:Gr2 wr W p z
 mb:GMb C c.fl
 m10:C 10=.int .i64 (c.mm:Nat)
 m11:c.ph=6->C 11=.int .i64 (c.xs:Nat)
 m13:C 13=.int .i64 (c.st:Nat)
 m1:C 1=.slice am c.nm cm
 own:wr.ownsRow Bm 28 8 (.slice am c.nm cm) c.nm xs
 t7:c.ph<=7->∃a cp L,C 7=.slice a L.length cp/\Qi 5 wr.heap.size W a cp L/\8*L.length<=c.ic.lc.i
 t8:c.ph<=8->∃a cp L,C 8=.slice a L.length cp/\Qi 5 wr.heap.size W a cp L/\8*L.length<=c.ic.lc.i/\(c.ph<=7->a=none/\cp=0/\L=[])
 sz:z<Bm/\q<Bm/\p<Bm/\hB<Bm/\Bm<=wr.heap.size
 fre:c.fr=true->∃n1,Qak wr q p n1 (gF 78 z)
 use:c.fr=false->∃g KH i0,KH z≠none/\(∀k,Qt am=some k->KH k≠none)/\Q2 KH q p hB g 32768 B zs (gF 78 z) wr (Vl c.ic i0)
structure GIm(z q p hB B Bm:Nat)(zs:List Int)(W:World)(c:GC)(C:Nat->Value)(am:Option Addr)(cm:Nat)(xs:List Value)(g:Nat)(KH:Nat->Option Obj):Prop where
 gz:GZ W z C
 c0:C 0=.pointer (some ⟨q,0,none⟩)
 mb:GMb C c.fl
 m10:C 10=.int .i64 (c.mm:Nat)
 m13:C 13=.int .i64 (c.st:Nat)
 m1:C 1=.slice am c.nm cm
 own:W.ownsRow Bm 28 8 (.slice am c.nm cm) c.nm xs
 kz:KH z≠none
 ka:∀k,Qt am=some k->KH k≠none
 im:Q2 KH q p hB g 32768 B zs (gF 78 z) W c.ic
structure Vr(z q p hB B:Nat)(zs:List Int)(w0 W:World)(c:GC):Prop where
 bel:Below B w0 W
 fin:QcR z q B W c
 ok:c.bad=false->GOK zs c
 lo:c.bad=false->c.ph<=9->∃wr C am cm xs,GHm z q p hB B w0.heap.size zs W c wr C am cm xs
 hi:c.bad=false->10<=c.ph->∃C am cm xs g KH,GIm z q p hB B w0.heap.size zs W c C am cm xs g KH
theorem Vh(h:w.ownsRow B e s (.slice am nm cm) n xs):∀k,Qt am=some k->B<=k/\k<w.heap.size:=fun k e=>by
 rcases h.2 with ⟨h5,_⟩|⟨g',cap',cur,h5,h6,h7,_⟩
 ·simp only [Value.slice.injEq] at h5
  rw [h5.1] at e
  cases e
 ·simp only [Value.slice.injEq] at h5
  rw [h5.1] at e
  simp [Qt] at e
  subst e
  exact ⟨h6,(Array.getElem?_eq_some_iff.1 h7).1⟩
theorem Vw{w':World}(h:w.ownsRow B e s (.slice am nm cm) n xs)(hb:∀k,Qt am=some k->w'.heap[k]?=w.heap[k]?):w'.ownsRow B e s (.slice am nm cm) n xs:=oD
theorem Qlu(hq:q<wr.heap.size)(gr:Gr2 wr W p z)(qp:q≠p)(qz:q≠z)(gz:GZ W z C)(c0:C 0=.pointer (some ⟨q,0,none⟩))(m1:C 1=.slice am c.nm cm)(m10:C 10=.int .i64 (c.mm:Nat))(fre:c.fr=true->(∃n1,Qak wr q p n1 (gF 78 z))/\c.ic.u=[])(use:c.fr=false->∃g KH i0,KH z≠none/\(∀k,Qt am=some k->KH k≠none)/\Q2 KH q p hB g 32768 B zs (gF 78 z) wr (Vl c.ic i0)):QcR z q B W c:=by
 have ah:=gr.block q hq qp qz;have I:∀o,W.cell? ⟨q,o,none⟩=wr.cell? ⟨q,o,none⟩:=fun o=>World.cell?_of_block (w:=wr) (a:=⟨q,o,none⟩) ah
 have Q:W.frozen? ⟨q,1,none⟩=wr.frozen? ⟨q,1,none⟩:=World.frozen?_of_block (w:=wr) (a:=⟨q,1,none⟩) ah;have t:=(gz.c 0 dn).trans (congrArg some c0);have z1:=(gz.c 1 dn).trans (congrArg some m1);have j:=(gz.c 10 dn).trans (congrArg some m10);cases hfr:c.fr with
 | true=>
  obtain ⟨⟨n1,hN⟩,e⟩:=fre hfr;exact ⟨⟨_,(I 1).trans hN.c1⟩,Q.trans (hN.f 1),⟨none,0,by rw [e];exact (I 30).trans hN.c30,by rw [e];exact Qi.nil _ _ _,by simp [Qt]⟩,t,⟨am,cm,z1⟩,j⟩
 | false=>
  obtain ⟨g,KH,i0,r,ha,hM⟩:=use hfr;obtain ⟨T,P,_⟩:=hM.ex;obtain ⟨oa,X,l,R,K⟩:=P.o30;have d:T z:=by
   cases e:KH z with
   | none=>exact absurd e r
   | some o=>exact (P.kz z o e).1
  obtain ⟨b,ho⟩:=hM.lm.c1;exact ⟨⟨b,(I 1).trans ho⟩,Q.trans (hM.lm.free 1),⟨oa,X,(I 30).trans l,R.keep (fun k e=>gr.block k (P.at30 _ _ _ k l e).1 (K k e).2.2.2.1 (fun e2=>(K k e).1 (e2▸d))),fun e=>(K q e).2.2.1 rfl⟩,t,⟨am,cm,z1⟩,j⟩
theorem GHm.fin(h:GHm z q p hB B Bm zs W c wr C am cm xs)(hok:GOK zs c):QcR z q B W c:=
 Qlu (by have:=h.sz;omega) h.gr h.hd.qp h.hd.qz h.hd.gz h.hd.c0 h.m1 h.m10 (fun e=>⟨h.fre e,by rw [(hok.fre e).2];rfl⟩) h.use
theorem GIm.fin{KH:Nat->Option Obj}(h:GIm z q p hB B Bm zs W c C am cm xs g KH):QcR z q B W c:=by
 obtain ⟨T,P,_⟩:=h.im.ex;obtain ⟨oa,X,l,R,K⟩:=P.o30;obtain ⟨b,ho⟩:=h.im.lm.c1;exact ⟨⟨b,ho⟩,h.im.lm.free 1,⟨oa,X,l,R,fun e=>(K q e).2.2.1 rfl⟩,(h.gz.c 0 dn).trans (congrArg some h.c0),⟨am,cm,(h.gz.c 1 dn).trans (congrArg some h.m1)⟩,(h.gz.c 10 dn).trans (congrArg some h.m10)⟩
theorem Qdk{k j:Nat}{v:Value}(h:b.heap[k]?=a.heap[k]?):(b.setCell ⟨q,j,none⟩ v).heap[k]?=(a.setCell ⟨q,j,none⟩ v).heap[k]?:=by
 simp only [World.setCell,Array.getElem?_modify,h]
theorem Gr2.setq(h:Gr2 a b p z)(q j:Nat)(v:Value):Gr2 (a.setCell ⟨q,j,none⟩ v) (b.setCell ⟨q,j,none⟩ v) p z:=
 ⟨h.os,h.tape,h.output,by simpa using h.size,fun k h1 h2 h3=>Qdk (h.block k (by simpa using h1) h2 h3)⟩
theorem VO.setq{i hs:Nat}(h:VO z q p hB zs i hs C w)(hbq:hB≠q)(v:Value):VO z q p hB zs i hs C (w.setCell ⟨q,1,none⟩ v):=by
 have O:=Qf w ⟨q,1,none⟩ v;exact ⟨h.gz.grown O (by simpa using fun e=>h.qz e.symm),h.c0,h.c12,h.hs,h.zp,h.hz,(World.cell?_setCell_other _ _ _ _ dr).trans h.m,h.qp,h.qz,h.rd.grown O (by simpa using fun e=>h.qp e.symm) (by simpa using hbq),h.al,h.oct,h.len⟩
theorem GHm.set(h:GHm z q p hB B Bm zs W c wr C am cm xs)(hbq:hB≠q)(v:Value):GHm z q p hB B Bm zs (W.setCell ⟨q,1,none⟩ v) c (wr.setCell ⟨q,1,none⟩ v) C am cm xs:=by
 have D:=h.sz;have O:=Qf W ⟨q,1,none⟩ v;have Y:=Qf wr ⟨q,1,none⟩ v;have b:(wr.setCell ⟨q,1,none⟩ v).heap.size=wr.heap.size:=dr;have hO:∀(a:Option Addr) (A:Nat) (L:List Int),Qi 5 wr.heap.size W a A L->Qi 5 (wr.setCell ⟨q,1,none⟩ v).heap.size (W.setCell ⟨q,1,none⟩ v) a A L:=fun a A L ho=>by
  rw [b];exact Qi.grown ho O (fun k e e2=>by simp at e;have:=Qi.based ho k e2;omega)
 refine ⟨h.hd.setq hbq v,h.gr.setq q 1 v,h.mb,h.m10,h.m11,h.m13,h.m1,Vw h.own (fun k e=>Y.block k (Vh h.own k e).2 r8),fun e=>?_,fun e=>?_,by rw [b];exact D,fun e=>?_,fun e=>?_⟩
 ·obtain ⟨a,A,L,J,h2,h3⟩:=h.t7 e
  exact ⟨a,A,L,J,hO _ _ _ h2,h3⟩
 ·obtain ⟨a,A,L,J,h2,h3⟩:=h.t8 e
  exact ⟨a,A,L,J,hO _ _ _ h2,h3⟩
 ·obtain ⟨Z,hN⟩:=h.fre e
  exact ⟨v,hN.set1 v⟩
 ·obtain ⟨g,n,i0,r,ha,hM⟩:=h.use e
  exact ⟨g,n,i0,r,ha,hM.next v⟩
theorem GHm.below(h:GHm z q p hB B Bm zs W c wr C am cm xs)(hb:Below W.heap.size W W'):GHm z q p hB B Bm zs W' c wr C am cm xs:=by
 refine ⟨(h.hd.below hb).1,h.gr.below hb,h.mb,h.m10,h.m11,h.m13,h.m1,h.own,fun e=>?_,fun e=>?_,h.sz,h.fre,h.use⟩
 ·obtain ⟨a,A,L,J,h2,h3⟩:=h.t7 e
  exact ⟨a,A,L,J,Qi.below h2 hb,h3⟩
 ·obtain ⟨a,A,L,J,h2,h3⟩:=h.t8 e
  exact ⟨a,A,L,J,Qi.below h2 hb,h3⟩
theorem GIm.set{KH:Nat->Option Obj}(h:GIm z q p hB B Bm zs W c C am cm xs g KH)(hzq:z≠q)(hqB:q<Bm)(v:Value):GIm z q p hB B Bm zs (W.setCell ⟨q,1,none⟩ v) c C am cm xs g KH:=by
 have O:=Qf W ⟨q,1,none⟩ v;exact ⟨h.gz.grown O ew,h.c0,h.mb,h.m10,h.m13,h.m1,Vw h.own (fun k e=>O.block k (Vh h.own k e).2 r8),h.kz,h.ka,h.im.next v⟩
theorem GIm.below{KH:Nat->Option Obj}(h:GIm z q p hB B Bm zs W c C am cm xs g KH)(hb:Below W.heap.size W W'):GIm z q p hB B Bm zs W' c C am cm xs g KH:=
 ⟨h.gz.below hb,h.c0,h.mb,h.m10,h.m13,h.m1,Vw h.own (fun k e=>hb.block k (Vh h.own k e).2),h.kz,h.ka,h.im.below hb⟩
theorem Vr.set(hF:QaX z q p hB B w0)(h:Vr z q p hB B zs w0 W c)(v:Value):Vr z q p hB B zs w0 (W.setCell ⟨q,1,none⟩ v) c:=by
 refine ⟨h.bel.setCell (p:=⟨q,1,none⟩) hF.bq v,h.fin.set hF.zq v,h.ok,fun hb h1=>?_,fun hb h1=>?_⟩
 ·obtain ⟨wr,C,am,cm,xs,f⟩:=h.lo hb h1
  exact ⟨_,C,am,cm,xs,f.set hF.hq v⟩
 ·obtain ⟨C,am,cm,xs,g,n,f⟩:=h.hi hb h1
  exact ⟨C,am,cm,xs,g,n,f.set hF.zq hF.qw v⟩
theorem Vr.below(hF:QaX z q p hB B w0)(h:Vr z q p hB B zs w0 W c)(hb:Below W.heap.size W W'):Vr z q p hB B zs w0 W' c:=by
 have b:B<=W.heap.size:=Nat.le_trans hF.Bw h.bel.size;refine ⟨h.bel.trans (hb.mono b),h.fin.below hb,h.ok,fun h0 h1=>?_,fun h0 h1=>?_⟩
 ·obtain ⟨wr,C,am,cm,xs,f⟩:=h.lo h0 h1
  exact ⟨_,C,am,cm,xs,f.below hb⟩
 ·obtain ⟨C,am,cm,xs,g,n,f⟩:=h.hi h0 h1
  exact ⟨C,am,cm,xs,g,n,f.below hb⟩
end
end Go.Proofs.YtgginbpmebgkcaaGreatDoor
