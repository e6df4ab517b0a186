import Derived.Deep.RegionLawGrows
import Derived.Test.YtgginbpmebgkcaaGreatDoorMAC
import Derived.Test.YtgginbpmebgkcaaGreatDoorMAO
import Derived.Test.YtgginbpmebgkcaaGreatDoorMAQ
import Derived.Test.YtgginbpmebgkcaaGreatDoorMAV
import Derived.Test.YtgginbpmebgkcaaGreatDoorMAW
namespace Go.Proofs.YtgginbpmebgkcaaGreatDoor
open Go.RowKit Go.Proofs.Tryz
set_option maxRecDepth 100000
set_option maxHeartbeats 25600000
section
variable{c cf:LC}{k:Int}
variable {KH : Nat → Option Obj}
attribute [local go_sem ↓] Go.wp_at_zero Go.wp_at_succ
set_option linter.unusedVariables false
def Qq(s:Nat)(zs:List Int)(c:IC):IC⊕(Int×IC):=
 if c.st<=5 then
  match Qx zs c.lc with
  | .inl l=>.inl {c with st:=l.st,lc:=l}
  | .inr x=>.inr (x.1,{c with st:=x.2.st,lc:=x.2})
 else if c.st=6 then QU c else if c.st=7 then Vf zs c else if c.st=8 then QW c else if c.st=9 then Vk zs c else if c.st=10 then Qw s zs c
 else if c.st=11 then QP c else if c.st=12 then VS s zs c else if c.st=13 then Vj zs c else if c.st=14 then VU zs c else QL s zs c
structure Qag(zs:List Int)(c:IC):Prop where
 s16:c.st<=16
 le:c.lc.i<=8*zs.length
 u:c.u.length<=100000
 lens:c.st<=6->QQ c.lc/\c.lc.st=c.st
 rest:7<=c.st->c.lc.st=0
 full:c.st=6->(c.lc.lens.length:Int)=c.lc.f 2+c.lc.f 3
 al:c.st=9\/c.st=10->c.lc.i%8=0
 sto:c.st=10->c.stored<=65535
 use:12<=c.st->c.st<=15->c.ul.length<=320/\c.ud.length<=320
 cl:c.st=13->3<=c.base/\c.base+2^c.extra<=259/\c.extra<=5
 ln:c.st=14\/c.st=15->3<=c.len/\c.len<=258
 cd:c.st=15->1<=c.base/\c.base+2^c.extra<=32769/\c.extra<=13
theorem Qlk{v:Int}{t:Nat}(hs:addS c v t=.inr (k,cf)):cf.st=c.st:=by
 unfold addS at hs;repeat' (split at hs)
 all_goals first|(cases hs;done)|(injection hs with e;injection e with e1 e2;rw [<-e2])
theorem QlU{zs:List Int}(hs:Qx zs c=.inr (k,cf)):cf.st=c.st:=by
 unfold Qx at hs;split at hs
 ·unfold QS at hs
  repeat' (split at hs)
  all_goals first|(cases hs;done)|(injection hs with e;injection e with e1 e2;rw [<-e2])
 ·split at hs
  ·unfold QF at hs
   repeat' (split at hs)
   all_goals first|(cases hs;done)|(injection hs with e;injection e with e1 e2;rw [<-e2])
  ·split at hs
   ·unfold QE at hs
    repeat' (split at hs)
    all_goals first|(cases hs;done)|(injection hs with e;injection e with e1 e2;rw [<-e2])
   ·split at hs
    ·unfold QX at hs
     repeat' (split at hs)
     all_goals first|(cases hs;done)|(injection hs with e;injection e with e1 e2;rw [<-e2])
    ·split at hs
     ·unfold Vq at hs
      repeat' (split at hs)
      all_goals first|(have:=Qlk hs;exact this)|(cases hs;done)|(injection hs with e;injection e with e1 e2;rw [<-e2])
     ·unfold Vs at hs
      repeat' (split at hs)
      all_goals first|(have:=Qlk hs;exact this)|(cases hs;done)|(injection hs with e;injection e with e1 e2;rw [<-e2])
theorem QjE(s:Nat)(h:s<=5):ifn s=lfn s:=by unfold ifn;rw [if_pos h]
theorem QeR(q p hB g s B:Nat)(zs:List Int)(aft:Value)(c:IC)(w:World)(hM:Q2 KH q p hB g s B zs aft w c)(hW:Qag zs c)(h15:c.st<=15)(hz:Qh zs)(hzl:zs.length<=65536):
  Calls prog (ifn c.st) #[.pointer (some ⟨q,0,none⟩)] w fun e w'=>Qz KH q p hB g s B zs aft (Qq s zs c) e w w':=by
 by_cases U:c.st<=5
 ·obtain ⟨hL,d⟩:=hW.lens dk
  rw [QjE _ U,<-d];refine Calls.mono (Qk2 q p hB zs (Qay q aft 6) c.lc w hM.lm hL dk hz hzl) ?_;rintro e w' ⟨hy,M⟩;obtain ⟨L,i,H,K⟩:=hM.bs;unfold Qq;rw [if_pos U];cases hs:Qx zs c.lc with
  | inl l=>
   obtain ⟨rfl,J,h2⟩:=hy l hs;have hl:=VY hL dk hs;have h6:=hl.s6;refine Qz.ok ?_ (hM.trod h2 J l.st dk ⟨fun _=>rfl,fun h=>dk⟩) (h2.toBelow hM.lm i H);show lnow q (Qay q aft 6) l.st=Qay q aft l.st;unfold lnow Qay;by_cases h:l.st<=5
   ·rw [if_pos h,if_pos dk,QjE _ h]
   ·have e6:l.st=6:=dk
    rw [if_neg h,e6]
  | inr x=>
   obtain ⟨k,b⟩:=x;obtain ⟨v,rfl,J,h2⟩:=M k b hs;have e:=QlU hs;exact Qz.no (hM.trod h2 J b.st dk ⟨fun _=>rfl,fun h=>dk⟩) (h2.toBelow hM.lm i H)
 ·unfold Qq
  rw [if_neg U];by_cases h6:c.st=6
  ·rw [if_pos h6,h6]
   exact Qeg q p hB g s B zs aft c w hM h6 (hW.lens dk).1 (hW.full h6)
  rw [if_neg h6];by_cases h7:c.st=7
  ·rw [if_pos h7,h7]
   exact Qgo q p hB g s B zs aft c w hM h7 hz hzl
  rw [if_neg h7];by_cases h8:c.st=8
  ·rw [if_pos h8,h8]
   exact Qhk q p hB g s B zs aft c w hM h8
  rw [if_neg h8];by_cases h9:c.st=9
  ·rw [if_pos h9,h9]
   exact Qfe q p hB g s B zs aft c w hM h9 hz hzl
  rw [if_neg h9];by_cases u:c.st=10
  ·rw [if_pos u,u]
   exact Qe1 q p hB g s B zs aft c w hM u (hW.al (.inr u)) (hW.sto u) hW.u hz hzl
  rw [if_neg u];by_cases D:c.st=11
  ·rw [if_pos D,D]
   exact Qfh q p hB g s B zs aft c w hM D
  rw [if_neg D];by_cases o:c.st=12
  ·rw [if_pos o,o]
   exact QhS q p hB g s B zs aft c w hM o hW.u (hW.use dk dk).1 hz hzl
  rw [if_neg o];by_cases j:c.st=13
  ·rw [if_pos j,j]
   have h:=hW.cl j;have h2:0<2^c.extra:=Nat.pos_of_ne_zero dr;exact QeV q p hB g s B zs aft c w hM j dk dk hz hzl
  rw [if_neg j];by_cases z:c.st=14
  ·rw [if_pos z,z]
   exact Qhx q p hB g s B zs aft c w hM z (hW.use dk dk).2 hz hzl
  rw [if_neg z];have C:c.st=15:=dk;rw [C];have h:=hW.cd C;have hl:=hW.ln<|.inr C
  have h2:0<2^c.extra:=Nat.pos_of_ne_zero dr;exact QdX q p hB g s B zs aft c w hM C hW.u dk dk dk dk dk hz hzl
end
end Go.Proofs.YtgginbpmebgkcaaGreatDoor
namespace Go.Proofs.YtgginbpmebgkcaaGreatDoor
open Go.RowKit Go.Proofs.Tryz
attribute [local go_sem ↓] Go.wp_at_zero Go.wp_at_succ
set_option linter.unusedVariables false
set_option maxRecDepth 100000
set_option maxHeartbeats 25600000
section
variable{zs:List Int}{c c':IC}
theorem QcH{ls:List Int}{b n:Nat}(h:(nx3 ls b n).1=1):1<=(nx3 ls b n).2.2:=by
 have h2:=Qhy ls b n;rw [h] at h2;unfold Qa8 at h2;split at h2
 ·rcases h2 with ⟨i,h3,_,_,_,h4⟩|⟨i,_,_,h3,_⟩|⟨_,h3,_⟩
  ·rw [h4];exact h3.1.pos
  ·omega
  ·omega
 ·omega
theorem Qez{c c':LC}(h5:c.st<=5)(hw:QQ c)(hs:Qx zs c=.inl c'):c.i<c'.i:=by
 unfold Qx at hs;split at hs
 ·exact oY
 ·split at hs
  ·exact oZ
  ·split at hs
   ·exact o5
   ·split at hs
    ·exact o7
    ·split at hs
     ·generalize Nat.min (8*zs.length-c.i) 15=n at*
      unfold Vq at hs;split at hs
      ·rename_i J
       have h2:=QcH J;repeat' (split at hs)
       all_goals first|(have:=Qhp hs;dsimp only at this;omega)|(cases hs;done)|(injection hs with hs;subst hs;dsimp only;omega)
      ·exact eR
     ·have hx:2<=QcO c:=by
       unfold QcO;repeat' split
       all_goals omega
      exact o8
def irk(n:Nat):Nat:=if n=6\/n=11 then 8 else if n=10 then 6 else if n=8 then 5 else if n=13 then 4 else if n=14\/n=15 then 3 else if n=12 then 2 else if n=16 then 0 else 1
def imu(zs:List Int)(c:IC):Nat:=16*(8*zs.length-c.lc.i)+irk c.st
theorem QhI(n:Nat):irk n<=8:=by
 unfold irk;repeat' split
 all_goals omega
theorem Qb8(h:c.lc.i<c'.lc.i)(h':c'.lc.i<=8*zs.length):imu zs c'<imu zs c:=by
 unfold imu;have:=QhI c'.st;omega
theorem Qdg(h:c.lc.i<=c'.lc.i)(hr:irk c'.st<irk c.st):imu zs c'<imu zs c:=by
 unfold imu;omega
theorem QnS{c:LC}(h:QQ c)(h6:c.st=6)(hf:(c.lens.length:Int)=c.f 2+c.f 3):(c.lens.take (c.f 2).toNat).length<=320/\(c.lens.drop (c.f 2).toNat).length<=320:=by
 have J:=h.lit dk;have h2:=h.dist dk;rw [List.length_take,List.length_drop];constructor<;>omega
theorem Qa3{s:Nat}(hW:Qag zs c)(h15:c.st<=15)(hzl:zs.length<=65536)(hs:Qq s zs c=.inl c'):Qag zs c'/\imu zs c'<imu zs c:=by
 have ar:=hW.le;have e:=hW.u;unfold Qq at hs;by_cases U:c.st<=5
 ·rw [if_pos U] at hs
  obtain ⟨hL,d⟩:=hW.lens dk;cases hl:Qx zs c.lc with
  | inr x=>rw [hl] at hs;cases hs
  | inl l=>
   rw [hl] at hs;injection hs with hs;subst hs;have A:=VY hL dk hl;have h6:=A.s6;have hi:=QmK dk ar hl;have hm:=Qez dk hL hl;refine ⟨⟨by show l.st<=16;omega,hi,e,fun _=>⟨A,rfl⟩,fun h=>?_,fun h=>QjN dk hl h,fun h=>?_,fun h=>?_,fun h _=>?_,fun h=>?_,fun h=>?_,fun h=>?_⟩,Qb8 hm hi⟩;all_goals (dsimp only at h;omega)
 rw [if_neg U] at hs;by_cases h6:c.st=6
 ·rw [if_pos h6] at hs
  unfold QU at hs;injection hs with hs;subst hs;have hu:=QnS (hW.lens dk).1 (by rw [(hW.lens dk).2];exact h6) (hW.full h6);refine ⟨⟨kj,ar,e,fun h=>?_,fun _=>rfl,fun h=>?_,fun h=>?_,fun h=>?_,fun _ _=>hu,fun h=>?_,fun h=>?_,fun h=>?_⟩,Qdg (Nat.le_refl _) (by rw [h6];show irk 12<irk 6;decide)⟩;all_goals (dsimp only at h;omega)
 rw [if_neg h6] at hs;have a:=hW.rest dk;by_cases h7:c.st=7
 ·rw [if_pos h7] at hs
  unfold Vf at hs;split at hs
  ·split at hs
   ·injection hs with hs
    subst hs;refine ⟨⟨by show 9<=16;omega,by show (c.lc.i+3+7)/8*8<=_;omega,e,fun h=>?_,fun _=>a,fun h=>?_,fun _=>by show (c.lc.i+3+7)/8*8%8=0;omega,fun h=>?_,fun h _=>?_,fun h=>?_,fun h=>?_,fun h=>?_⟩,Qb8 (by show c.lc.i<(c.lc.i+3+7)/8*8;omega) (by show (c.lc.i+3+7)/8*8<=_;omega)⟩;all_goals (dsimp only at h;omega)
   ·split at hs
    ·injection hs with hs
     subst hs;refine ⟨⟨by show 11<=16;omega,ia,e,fun h=>?_,fun _=>a,fun h=>?_,fun h=>?_,fun h=>?_,fun h _=>?_,fun h=>?_,fun h=>?_,fun h=>?_⟩,Qb8 (by show c.lc.i<c.lc.i+3;omega) ia⟩;all_goals (dsimp only at h;omega)
    ·split at hs
     ·injection hs with hs
      subst hs;refine ⟨⟨by show 0<=16;omega,ia,e,fun _=>⟨QQ.none _ a,a⟩,fun h=>?_,fun h=>?_,fun h=>?_,fun h=>?_,fun h _=>?_,fun h=>?_,fun h=>?_,fun h=>?_⟩,Qb8 (by show c.lc.i<c.lc.i+3;omega) ia⟩;all_goals (dsimp only at h;omega)
     ·cases hs
  ·cases hs
 rw [if_neg h7] at hs;by_cases h8:c.st=8
 ·rw [if_pos h8] at hs
  unfold QW at hs;split at hs
  ·injection hs with hs
   subst hs;refine ⟨⟨by show 16<=16;omega,ar,e,fun h=>?_,fun _=>a,fun h=>?_,fun h=>?_,fun h=>?_,fun _ h=>?_,fun h=>?_,fun h=>?_,fun h=>?_⟩,Qdg (Nat.le_refl _) (by rw [h8];show irk 16<irk 8;decide)⟩;all_goals (dsimp only at h;omega)
  ·injection hs with hs
   subst hs;refine ⟨⟨by show 7<=16;omega,ar,e,fun h=>?_,fun _=>a,fun h=>?_,fun h=>?_,fun h=>?_,fun h _=>?_,fun h=>?_,fun h=>?_,fun h=>?_⟩,Qdg (Nat.le_refl _) (by rw [h8];show irk 7<irk 8;decide)⟩;all_goals (dsimp only at h;omega)
 rw [if_neg h8] at hs;by_cases h9:c.st=9
 ·rw [if_pos h9] at hs
  have ha:=hW.al<|.inl h9
  unfold Vk at hs;split at hs
  ·split at hs
   ·injection hs with hs
    subst hs;refine ⟨⟨by show 10<=16;omega,by show c.lc.i+32<=_;omega,e,fun h=>?_,fun _=>a,fun h=>?_,fun _=>by show (c.lc.i+32)%8=0;omega,fun _=>by show _%65536<=65535;omega,fun h _=>?_,fun h=>?_,fun h=>?_,fun h=>?_⟩,Qb8 (by show c.lc.i<c.lc.i+32;omega) (by show c.lc.i+32<=_;omega)⟩;all_goals (dsimp only at h;omega)
   ·cases hs
  ·cases hs
 rw [if_neg h9] at hs;by_cases u:c.st=10
 ·rw [if_pos u] at hs
  have ha:=hW.al<|.inr u
  have d:=hW.sto u;unfold Qw at hs;split at hs
  ·injection hs with hs
   subst hs;refine ⟨⟨by show 8<=16;omega,ar,e,fun h=>?_,fun _=>a,fun h=>?_,fun h=>?_,fun h=>?_,fun h _=>?_,fun h=>?_,fun h=>?_,fun h=>?_⟩,Qdg (Nat.le_refl _) (by rw [u];show irk 8<irk 10;decide)⟩;all_goals (dsimp only at h;omega)
  ·have f:1<=stN zs c:=by unfold stN;omega
   generalize hm:stN zs c=m at*;split at hs
   ·split at hs
    ·cases hs
    ·injection hs with hs
     subst hs;have hl:(c.u++(zs.drop (c.lc.i/8)).take m).length<=100000:=by rw [List.length_append,List.length_take];omega
     refine ⟨⟨kl,by show c.lc.i+8*m<=_;omega,hl,fun h=>?_,fun _=>a,fun h=>?_,fun _=>by show (c.lc.i+8*m)%8=0;omega,fun _=>by show c.stored-m<=65535;omega,fun h _=>?_,fun h=>?_,fun h=>?_,fun h=>?_⟩,Qb8 (by show c.lc.i<c.lc.i+8*m;omega) (by show c.lc.i+8*m<=_;omega)⟩;all_goals (have y:=h;unfold Qap at y;dsimp only at y;omega)
   ·cases hs
 rw [if_neg u] at hs;by_cases D:c.st=11
 ·rw [if_pos D] at hs
  unfold QP at hs;injection hs with hs;subst hs;refine ⟨⟨kj,ar,e,fun h=>?_,fun _=>a,fun h=>?_,fun h=>?_,fun h=>?_,fun _ _=>⟨by show F288.length<=320;rw [Ve];omega,by show F32.length<=320;decide⟩,fun h=>?_,fun h=>?_,fun h=>?_⟩,Qdg (Nat.le_refl _) (by rw [D];show irk 12<irk 11;decide)⟩;all_goals (dsimp only at h;omega)
 rw [if_neg D] at hs;have hu:=hW.use dk h15;by_cases o:c.st=12
 ·rw [if_pos o] at hs
  unfold VS at hs;have hm:Nat.min (8*zs.length-c.lc.i) 15<=8*zs.length-c.lc.i:=Nat.min_le_left _ _;generalize Nat.min (8*zs.length-c.lc.i) 15=n at*;have H:=QaP (ls:=c.ul) (b:=field (bnum zs) c.lc.i n) (n:=n);have g:=QcH (ls:=c.ul) (b:=field (bnum zs) c.lc.i n) (n:=n);generalize nx3 c.ul (field (bnum zs) c.lc.i n) n=x at*;obtain ⟨k,r,l⟩:=x;dsimp only at hs H g;split at hs
  ·rename_i hk
   have hl:=(H hk).2;have N:=g hk;split at hs
   ·split at hs
    ·cases hs
    ·injection hs with hs
     subst hs;have O:(c.u++[(r:Int)]).length<=100000:=by rw [List.length_append];show _+1<=_;omega
     refine ⟨⟨kl,eA,O,fun h=>?_,fun _=>a,fun h=>?_,fun h=>?_,fun h=>?_,fun _ _=>hu,fun h=>?_,fun h=>?_,fun h=>?_⟩,Qb8 ie eA⟩;all_goals (have y:=h;unfold Qap at y;dsimp only at y;omega)
   ·split at hs
    ·injection hs with hs
     subst hs;refine ⟨⟨by show 8<=16;omega,eA,e,fun h=>?_,fun _=>a,fun h=>?_,fun h=>?_,fun h=>?_,fun h _=>?_,fun h=>?_,fun h=>?_,fun h=>?_⟩,Qb8 ie eA⟩;all_goals (dsimp only at h;omega)
    ·split at hs
     ·cases hs
     ·injection hs with hs
      subst hs;refine ⟨⟨by show 13<=16;omega,eA,e,fun h=>?_,fun _=>a,fun h=>?_,fun h=>?_,fun h=>?_,fun _ _=>hu,fun _=>QhC r dk dk,fun h=>?_,fun h=>?_⟩,Qb8 ie eA⟩;all_goals (dsimp only at h;omega)
  ·exact eR
 rw [if_neg o] at hs;by_cases j:c.st=13
 ·rw [if_pos j] at hs
  obtain ⟨b1,b2,Z⟩:=hW.cl j;unfold Vj at hs;split at hs
  ·injection hs with hs
   subst hs;have Y:=Q4 (bnum zs) c.lc.i c.extra;refine ⟨⟨by show 14<=16;omega,by show c.lc.i+c.extra<=_;omega,e,fun h=>?_,fun _=>a,fun h=>?_,fun h=>?_,fun h=>?_,fun _ _=>hu,fun h=>?_,fun _=>⟨by show 3<=c.base+_;omega,by show c.base+field (bnum zs) c.lc.i c.extra<=258;omega⟩,fun h=>?_⟩,Qdg pg (by rw [j];show irk 14<irk 13;decide)⟩;all_goals (dsimp only at h;omega)
  ·cases hs
 rw [if_neg j] at hs;have aL:=hW.ln dk;by_cases z:c.st=14
 ·rw [if_pos z] at hs
  unfold VU at hs;have hm:Nat.min (8*zs.length-c.lc.i) 15<=8*zs.length-c.lc.i:=Nat.min_le_left _ _;generalize Nat.min (8*zs.length-c.lc.i) 15=n at*;have H:=QaP (ls:=c.ud) (b:=field (bnum zs) c.lc.i n) (n:=n);have g:=QcH (ls:=c.ud) (b:=field (bnum zs) c.lc.i n) (n:=n);generalize nx3 c.ud (field (bnum zs) c.lc.i n) n=x at*;obtain ⟨k,r,l⟩:=x;dsimp only at hs H g;split at hs
  ·rename_i hk
   have hl:=(H hk).2;have N:=g hk;split at hs
   ·cases hs
   ·injection hs with hs
    subst hs;refine ⟨⟨by show 15<=16;omega,eA,e,fun h=>?_,fun _=>a,fun h=>?_,fun h=>?_,fun h=>?_,fun _ _=>hu,fun h=>?_,fun _=>aL,fun _=>Qil r dk⟩,Qb8 ie eA⟩;all_goals (dsimp only at h;omega)
  ·exact eR
 rw [if_neg z] at hs;have C:c.st=15:=dk;unfold QL at hs;split at hs
 ·split at hs
  ·cases hs
  ·split at hs
   ·cases hs
   ·injection hs with hs
    subst hs;have O:(c.u++VG c.t (c.base+field (bnum zs) c.lc.i c.extra) c.len).length<=100000:=by rw [List.length_append,Qam];omega
    refine ⟨⟨kj,by show c.lc.i+c.extra<=_;omega,O,fun h=>?_,fun _=>a,fun h=>?_,fun h=>?_,fun h=>?_,fun _ _=>hu,fun h=>?_,fun h=>?_,fun h=>?_⟩,Qdg pg (by rw [C];show irk 12<irk 15;decide)⟩;all_goals (have y:=h;unfold QfD at y;dsimp only at y;omega)
 ·cases hs
end
end Go.Proofs.YtgginbpmebgkcaaGreatDoor
namespace Go.Proofs.YtgginbpmebgkcaaGreatDoor
open Go.RowKit Go.Proofs.Tryz
set_option maxRecDepth 100000
set_option maxHeartbeats 25600000
section
variable{zs:List Int}{s:Nat}{c:IC}{cf:LC}
variable {KH : Nat → Option Obj}
attribute [local go_sem ↓] Go.wp_at_zero Go.wp_at_succ
set_option linter.unusedVariables false
theorem Qea(args:Array Value)(W:World):Sem.run prog (callFunc 106 args) W=.ok (.enter 106 args) W:=by kernel_rfl
theorem Qgi(args:Array Value)(W:World):Sem.run prog (callFunc 105 args) W=.ok (.enter 105 args) W:=by kernel_rfl
theorem Qh0(args:Array Value)(W:World):Sem.run prog (callFunc 182 args) W=.ok (.enter 182 args) W:=by kernel_rfl
theorem QeY(args:Array Value)(W:World):Sem.run prog (callFunc 147 args) W=.ok (.enter 147 args) W:=by kernel_rfl
theorem Qe8(args:Array Value)(W:World):Sem.run prog (callFunc 176 args) W=.ok (.enter 176 args) W:=by kernel_rfl
theorem Qfm(args:Array Value)(W:World):Sem.run prog (callFunc 148 args) W=.ok (.enter 148 args) W:=by kernel_rfl
theorem Qit(args:Array Value)(W:World):Sem.run prog (callFunc 152 args) W=.ok (.enter 152 args) W:=by kernel_rfl
theorem QfI(args:Array Value)(W:World):Sem.run prog (callFunc 184 args) W=.ok (.enter 184 args) W:=by kernel_rfl
theorem Qhz(args:Array Value)(W:World):Sem.run prog (callFunc 195 args) W=.ok (.enter 195 args) W:=by kernel_rfl
theorem QdY(args:Array Value)(W:World):Sem.run prog (callFunc 203 args) W=.ok (.enter 203 args) W:=by kernel_rfl
theorem QnL(s:Nat)(hs:s<=15)(args:Array Value)(W:World):Sem.run prog (callFunc (ifn s) args) W=.ok (.enter (ifn s) args) W:=by
 by_cases U:s<=5
 ·rw [QjE s U]
  exact QqX s U args W
 ·have h3:s=6\/s=7\/s=8\/s=9\/s=10\/s=11\/s=12\/s=13\/s=14\/s=15:=dk
  rcases h3 with rfl|rfl|rfl|rfl|rfl|rfl|rfl|rfl|rfl|rfl
  ·exact Qea args W
  ·exact Qgi args W
  ·exact Qh0 args W
  ·exact QeY args W
  ·exact Qe8 args W
  ·exact Qfm args W
  ·exact Qit args W
  ·exact QfI args W
  ·exact Qhz args W
  ·exact QdY args W
theorem Q2.next{q p hB g B:Nat}{aft:Value}{w:World}(h:Q2 KH q p hB g s B zs aft w c)(v:Value):Q2 KH q p hB g s B zs aft (w.setCell ⟨q,1,none⟩ v) c:=by
 obtain ⟨T,P,A⟩:=h.ex;obtain ⟨g1,g2,g3,g4,g5,g6,g7⟩:=P.ne;have O:=Qf w ⟨q,1,none⟩ v;have I:∀o,o≠1->(w.setCell ⟨q,1,none⟩ v).cell? ⟨q,o,none⟩=w.cell? ⟨q,o,none⟩:=fun o ho=>World.cell?_setCell_other _ _ _ _ dB
 refine fi ?_;intro F;have hb:∀k,k<w.heap.size->k≠q->(w.setCell ⟨q,1,none⟩ v).heap[k]?=w.heap[k]?:=fun k hk hne=>O.block k hk fj
 refine ⟨h.lm.next v,h.ls,h.bs,T,P.keep O.size (fun o ho=>I o dk) (fun k hk=>hb k (P.tlt k hk) (fun e=>g5 (e▸hk))) (hb g F g1) (fun ao n cap k e1 e2=>hb k (P.at30 ao n cap k e1 e2).1 (P.at30 ao n cap k e1 e2).2.2.2.1),?_⟩;exact oG
theorem Qjf{c:LC}{v:Int}{t:Nat}(hs:addS c v t=.inr (2,cf)):False:=n8
theorem QjH{c:LC}(hs:Qx zs c=.inr (2,cf)):cf=c:=by
 unfold Qx at hs;split at hs
 ·unfold QS at hs
  repeat' (split at hs)
  all_goals first|(cases hs;done)|(injection hs with e;injection e with e1 e2;first|omega|exact e2.symm)
 ·split at hs
  ·unfold QF at hs
   repeat' (split at hs)
   all_goals first|(cases hs;done)|(injection hs with e;injection e with e1 e2;first|omega|exact e2.symm)
  ·split at hs
   ·unfold QE at hs
    repeat' (split at hs)
    all_goals first|(cases hs;done)|(injection hs with e;injection e with e1 e2;first|omega|exact e2.symm)
   ·split at hs
    ·unfold QX at hs
     repeat' (split at hs)
     all_goals first|(cases hs;done)|(injection hs with e;injection e with e1 e2;first|omega|exact e2.symm)
    ·split at hs
     ·unfold Vq at hs
      repeat' (split at hs)
      all_goals first|exact (Qjf hs).elim|(cases hs;done)|(injection hs with e;injection e with e1 e2;first|omega|exact e2.symm)
     ·unfold Vs at hs
      repeat' (split at hs)
      all_goals first|exact (Qjf hs).elim|(cases hs;done)|(injection hs with e;injection e with e1 e2;first|omega|exact e2.symm)
theorem QkF{cf:IC}(hW:Qag zs c)(hs:Qq s zs c=.inr (2,cf)):cf=c:=by
 unfold Qq at hs;by_cases U:c.st<=5
 ·rw [if_pos U] at hs
  cases hl:Qx zs c.lc with
  | inl l=>rw [hl] at hs;cases hs
  | inr x=>
   rw [hl] at hs;obtain ⟨k,l⟩:=x;injection hs with e;injection e with e1 e2;dsimp only at e1 e2;subst e1;have:=QjH hl;subst this;have d:=(hW.lens dk).2;rw [<-e2,d]
 rw [if_neg U] at hs;by_cases h6:c.st=6
 ·rw [if_pos h6] at hs;unfold QU at hs;cases hs
 rw [if_neg h6] at hs;by_cases h7:c.st=7
 ·rw [if_pos h7] at hs
  unfold Vf at hs;repeat' (split at hs)
  all_goals first|(cases hs;done)|(injection hs with e;injection e with e1 e2;first|omega|exact e2.symm)
 rw [if_neg h7] at hs;by_cases h8:c.st=8
 ·rw [if_pos h8] at hs
  unfold QW at hs;exact eR
 rw [if_neg h8] at hs;by_cases h9:c.st=9
 ·rw [if_pos h9] at hs
  unfold Vk at hs;repeat' (split at hs)
  all_goals first|(cases hs;done)|(injection hs with e;injection e with e1 e2;first|omega|exact e2.symm)
 rw [if_neg h9] at hs;by_cases u:c.st=10
 ·rw [if_pos u] at hs
  unfold Qw at hs;repeat' (split at hs)
  all_goals first|(cases hs;done)|(injection hs with e;injection e with e1 e2;first|omega|exact e2.symm)
 rw [if_neg u] at hs;by_cases D:c.st=11
 ·rw [if_pos D] at hs;unfold QP at hs;cases hs
 rw [if_neg D] at hs;by_cases o:c.st=12
 ·rw [if_pos o] at hs
  unfold VS at hs;repeat' (split at hs)
  all_goals first|(cases hs;done)|(injection hs with e;injection e with e1 e2;first|omega|exact e2.symm)
 rw [if_neg o] at hs;by_cases j:c.st=13
 ·rw [if_pos j] at hs
  unfold Vj at hs;repeat' (split at hs)
  all_goals first|(cases hs;done)|(injection hs with e;injection e with e1 e2;first|omega|exact e2.symm)
 rw [if_neg j] at hs;by_cases z:c.st=14
 ·rw [if_pos z] at hs
  unfold VU at hs;repeat' (split at hs)
  all_goals first|(cases hs;done)|(injection hs with e;injection e with e1 e2;first|omega|exact e2.symm)
 rw [if_neg z] at hs;unfold QL at hs;repeat' (split at hs)
 all_goals first|(cases hs;done)|(injection hs with e;injection e with e1 e2;first|omega|exact e2.symm)
end
end Go.Proofs.YtgginbpmebgkcaaGreatDoor
namespace Go.Proofs.YtgginbpmebgkcaaGreatDoor
open Go.RowKit Go.Proofs.Tryz
set_option linter.unusedVariables false
set_option maxRecDepth 100000
set_option maxHeartbeats 25600000
structure QfE(w:World):Prop where
 sz:3<=w.heap.size
 g0:w.cell? ⟨1,0,none⟩=some (.iface 257 (.agg #[.pointer (some ⟨3,131,none⟩)]))
 g1:∀k,k<19->w.cell? ⟨2,k,none⟩=some (.int .i64 (ord19 k:Nat))
theorem QfE.below{w w':World}{B:Nat}(h:QfE w)(hb:Below B w w')(hB:3<=B):QfE w':=by
 refine ⟨Nat.le_trans h.sz hb.size,?_,fun k hk=>?_⟩
 ·rw [hb.cell (p:=⟨1,0,none⟩) (by show 1<_;omega)];exact h.g0
 ·rw [hb.cell (p:=⟨2,k,none⟩) (by show 2<_;omega)];exact h.g1 k hk
end Go.Proofs.YtgginbpmebgkcaaGreatDoor
namespace Go.Proofs.YtgginbpmebgkcaaGreatDoor
open Go.RowKit Go.Proofs.Tryz
attribute [local go_sem ↓] Go.wp_at_zero Go.wp_at_succ
set_option linter.unusedVariables false
section
set_option maxRecDepth 100000
set_option maxHeartbeats 25600000
variable{s:Nat}{zs:List Int}{c cf c':IC}{k:Int}
def Qn8(s:Nat)(zs:List Int):Nat->IC->Int->IC->Prop
 | 0,_,_,_=>False
 | n+1,c,k,cf=>(¬c.st<=15/\k=1/\cf=c)\/(c.st<=15/\Qq s zs c=.inr (k,cf))\/(c.st<=15/\∃c',Qq s zs c=.inl c'/\Qn8 s zs n c' k cf)
def Vv(s:Nat)(zs:List Int)(c:IC)(k:Int)(cf:IC):Prop:=∃n,Qn8 s zs n c k cf
theorem Vv.fin(h:¬c.st<=15):Vv s zs c 1 c:=⟨1,.inl ⟨h,rfl,rfl⟩⟩
theorem Vv.bad(h:c.st<=15)(hs:Qq s zs c=.inr (k,cf)):Vv s zs c k cf:=⟨1,.inr (.inl ⟨h,hs⟩)⟩
theorem Vv.more(h:c.st<=15)(hs:Qq s zs c=.inl c')(h2:Vv s zs c' k cf):Vv s zs c k cf:=jw
theorem Vv.cut(h:Vv s zs c k cf):(¬c.st<=15/\k=1/\cf=c)\/(c.st<=15/\Qq s zs c=.inr (k,cf))\/(c.st<=15/\∃c',Qq s zs c=.inl c'/\Vv s zs c' k cf):=n7
theorem Vv.step(h:Vv s zs c k cf)(h15:c.st<=15)(hs:Qq s zs c=.inl c'):Vv s zs c' k cf:=by
 rcases h.cut with ⟨J,_⟩|⟨_,h2⟩|⟨_,c2,h2,h3⟩
 ·exact absurd h15 J
 ·rw [hs] at h2;cases h2
 ·rw [hs] at h2;injection h2 with e;subst e;exact h3
theorem Vv.stop{c2:IC}{k2:Int}(h:Vv s zs c k cf)(h15:c.st<=15)(hs:Qq s zs c=.inr (k2,c2)):k=k2/\cf=c2:=by
 rcases h.cut with ⟨J,_⟩|⟨_,h2⟩|⟨_,c3,h2,h3⟩
 ·exact absurd h15 J
 ·rw [hs] at h2;injection h2 with e;injection e with e1 e2;exact ⟨e1.symm,e2.symm⟩
 ·rw [hs] at h2;cases h2
theorem Vv.at16(h:Vv s zs c k cf)(h16:c.st=16):k=1/\cf=c:=by
 rcases h.cut with ⟨_,h2⟩|⟨h2,_⟩|⟨h2,_⟩
 ·exact h2
 ·omega
 ·omega
theorem QO(hs:Qq s zs c=.inr (k,cf)):k=2\/k=3\/k=6:=by
 unfold Qq at hs;by_cases U:c.st<=5
 ·rw [if_pos U] at hs
  cases hl:Qx zs c.lc with
  | inl l=>rw [hl] at hs;cases hs
  | inr x=>
   rw [hl] at hs;obtain ⟨k2,l⟩:=x;injection hs with e;injection e with e1 e2;dsimp only at e1;subst e1;rcases Qbj hl with h|h
   ·exact .inl h
   ·exact .inr (.inl h)
 rw [if_neg U] at hs;repeat' (split at hs)
 all_goals (try unfold QU at hs)
 all_goals (try unfold Vf at hs)
 all_goals (try unfold QW at hs)
 all_goals (try unfold Vk at hs)
 all_goals (try unfold Qw at hs)
 all_goals (try unfold QP at hs)
 all_goals (try unfold VS at hs)
 all_goals (try unfold Vj at hs)
 all_goals (try unfold VU at hs)
 all_goals (try unfold QL at hs)
 all_goals repeat' (split at hs)
 all_goals first|(cases hs;done)|(injection hs with e;injection e with e1 e2;omega)
theorem Qdj(hs:Qq s zs c=.inr (k,cf)):cf.u=c.u:=by
 unfold Qq at hs;by_cases U:c.st<=5
 ·rw [if_pos U] at hs
  cases hl:Qx zs c.lc with
  | inl l=>rw [hl] at hs;cases hs
  | inr x=>
   rw [hl] at hs;obtain ⟨k2,l⟩:=x;injection hs with e;injection e with e1 e2;rw [<-e2]
 rw [if_neg U] at hs;repeat' (split at hs)
 all_goals (try unfold QU at hs)
 all_goals (try unfold Vf at hs)
 all_goals (try unfold QW at hs)
 all_goals (try unfold Vk at hs)
 all_goals (try unfold Qw at hs)
 all_goals (try unfold QP at hs)
 all_goals (try unfold VS at hs)
 all_goals (try unfold Vj at hs)
 all_goals (try unfold VU at hs)
 all_goals (try unfold QL at hs)
 all_goals repeat' (split at hs)
 all_goals first|(cases hs;done)|(injection hs with e;injection e with e1 e2;rw [<-e2])
end
section
set_option maxRecDepth 100000
set_option maxHeartbeats 25600000
variable{w:World}{g:Nat}{v0 v1 v2:Value}
structure QcQ(w:World)(g:Nat)(v0 v1 v2:Value):Prop where
 c0:w.cell? ⟨g,0,none⟩=some v0
 c1:w.cell? ⟨g,1,none⟩=some v1
 c2:w.cell? ⟨g,2,none⟩=some v2
 f:∀k,w.frozen? ⟨g,k,none⟩=false
theorem Qdr(w:World)(v0 v1 v2:Value)(t:TypeId):QcQ (w.alloc (.cells #[v0,v1,v2] t)) w.heap.size v0 v1 v2:=by
 refine ⟨?_,?_,?_,fun k=>?_⟩<;>simp [go_sem]
theorem QcQ.below{w':World}{B:Nat}(h:QcQ w g v0 v1 v2)(hb:Below B w w')(hg:g<B):QcQ w' g v0 v1 v2:=
 ⟨(hb.cell (p:=⟨g,0,none⟩) hg).trans h.c0,(hb.cell (p:=⟨g,1,none⟩) hg).trans h.c1,(hb.cell (p:=⟨g,2,none⟩) hg).trans h.c2,fun k=>(hb.frozen (p:=⟨g,k,none⟩) hg).trans (h.f k)⟩
theorem QcQ.set(h:QcQ w g v0 v1 v2)(x0 x1 x2:Value):
  QcQ (((w.setCell ⟨g,0,none⟩ x0).setCell ⟨g,1,none⟩ x1).setCell ⟨g,2,none⟩ x2) g x0 x1 x2/\w.grownBy (((w.setCell ⟨g,0,none⟩ x0).setCell ⟨g,1,none⟩ x1).setCell ⟨g,2,none⟩ x2) (some g):=by
 have M:∀(W:World) (x:Value) (i j:Nat),i≠j->(W.setCell ⟨g,i,none⟩ x).cell? ⟨g,j,none⟩=W.cell? ⟨g,j,none⟩:=fun W x i j hij=>World.cell?_setCell_other _ _ _ _ dB
 refine ⟨⟨?_,?_,?_,fun k=>?_⟩,?_⟩
 ·rw [M _ _ 2 0 dn,M _ _ 1 0 dn,World.cell?_setCell_same _ _ _ h.c0]
 ·rw [M _ _ 2 1 dn,World.cell?_setCell_same _ _ _ (u:=v1) pz]
 ·rw [World.cell?_setCell_same _ _ _ (u:=v2) pA]
 ·simp only [World.frozen?_setCell]
  exact h.f k
 ·exact Qj (Qj (Qf w ⟨g,0,none⟩ _) (Qf _ ⟨g,1,none⟩ _)) (Qf _ ⟨g,2,none⟩ _)
def QpQ(k:Int)(out:List Int)(n:Int)(e:Ending)(w w':World):Prop:=
 ∃a c,e=.returned (.agg #[.int .i64 k,.slice a out.length c,.int .i64 n])/\Qi 5 w.heap.size w' a c out/\Below w.heap.size w w'
theorem Qi.nil(e B:Nat)(w:World):Qi e B w none 0 []:=⟨rfl,.inl ⟨rfl,rfl⟩⟩
end
end Go.Proofs.YtgginbpmebgkcaaGreatDoor
