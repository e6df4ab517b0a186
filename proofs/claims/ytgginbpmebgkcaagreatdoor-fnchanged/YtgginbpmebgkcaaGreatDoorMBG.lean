import Derived.Laws.BitsAllLaws
import Derived.Test.YtgginbpmebgkcaaGreatDoorProg
import Derived.WalkKit
import Derived.WalkSpells
import Derived.WalkLawsBesides
import Derived.BigQuiet
import Derived.Test.YtgginbpmebgkcaaGreatDoorMAB
namespace Go.Proofs.YtgginbpmebgkcaaGreatDoor
open Go.RowKit Go.Proofs.Tryz
set_option linter.unusedVariables false
set_option maxRecDepth 100000
set_option maxHeartbeats 25600000
theorem QfJ(hi lo mh ml:Nat)(h1:lo<2^16)(h2:ml<2^16):(2^16*hi+lo)&&&(2^16*mh+ml)=2^16*(hi&&&mh)+(lo&&&ml):=by
 refine Nat.eq_of_testBit_eq fun j=>?_
 rw [Nat.testBit_and,Nat.testBit_two_pow_mul_add _ h1,Nat.testBit_two_pow_mul_add _ h2,Nat.testBit_two_pow_mul_add _ (Nat.and_lt_two_pow lo h2)];split<;>rw [Nat.testBit_and]
theorem Qmb(hi lo mh ml:Nat)(h1:lo<2^16)(h2:ml<2^16):(2^16*hi+lo)|||(2^16*mh+ml)=2^16*(hi|||mh)+(lo|||ml):=by
 refine Nat.eq_of_testBit_eq fun j=>?_
 rw [Nat.testBit_or,Nat.testBit_two_pow_mul_add _ h1,Nat.testBit_two_pow_mul_add _ h2,Nat.testBit_two_pow_mul_add _ (Nat.or_lt_two_pow h1 h2)];split<;>rw [Nat.testBit_or]
theorem QhG(k a b:Nat)(h:b<2^k):b|||2^k*a=2^k*a+b:=by rw [Nat.or_comm,<-Nat.two_pow_add_eq_or_of_lt h]
def rb4(x:Nat):Nat:=x/16777216%256+256*(x/65536%256)+65536*(x/256%256)+16777216*(x%256)
theorem Qkm(x:Nat):rb4 x<4294967296:=by unfold rb4;omega
theorem Qhq(x:Nat)(h:x<4294967296):x=x%256+256*(x/256%256)+65536*(x/65536%256)+16777216*(x/16777216%256):=by
 have J:x/65536=x/256/256:=by rw [Nat.div_div_eq_div_mul]
 have h2:x/16777216=x/256/256/256:=by rw [Nat.div_div_eq_div_mul,Nat.div_div_eq_div_mul]
 rw [J,h2];omega
theorem QkH(a b c d:Nat)(ha:a<256)(hb:b<256)(hc:c<256)(hd:d<256):rb4 (a+256*b+65536*c+16777216*d)=d+256*c+65536*b+16777216*a:=by
 unfold rb4;have e1:(a+256*b+65536*c+16777216*d)/16777216%256=d:=dk;have e2:(a+256*b+65536*c+16777216*d)/65536%256=c:=dk;have R:(a+256*b+65536*c+16777216*d)/256%256=b:=dk;have V:(a+256*b+65536*c+16777216*d)%256=a:=dk;rw [e1,e2,R,V]
theorem Qp6(x:Nat)(h:x<4294967296):rb4 (rb4 x)=x:=by
 have hd:=Qhq x h;obtain ⟨a,ha⟩:=dt (x%256);obtain ⟨b,hb⟩:=dt (x/256%256);obtain ⟨c,I⟩:=dt (x/65536%256);obtain ⟨d,F⟩:=dt (x/16777216%256);rw [ha,hb,I,F] at hd;rw [hd,QkH a b c d dk dk dk dk,QkH d c b a dk dk dk dk]
theorem Qqk(a b c d:Nat)(ha:a<256)(hb:b<256)(hc:c<256)(hd:d<256):(b+256*c+65536*d)&&&16711935=b+65536*d:=by
 have h:=QfJ d (b+256*c) 255 255 dk dn;rw [show (b+256*c+65536*d)=2^16*d+(b+256*c) by omega,show (16711935:Nat)=2^16*255+255 by decide,h,show (255:Nat)=2^8-1 from rfl,Nat.and_two_pow_sub_one_eq_mod,Nat.and_two_pow_sub_one_eq_mod];omega
theorem QqU(a b c d:Nat)(ha:a<256)(hb:b<256)(hc:c<256)(hd:d<256):(a+256*b+65536*c+16777216*d)&&&16711935=a+65536*c:=by
 have h:=QfJ (c+256*d) (a+256*b) 255 255 dk dn;rw [show (a+256*b+65536*c+16777216*d)=2^16*(c+256*d)+(a+256*b) by omega,show (16711935:Nat)=2^16*255+255 by decide,h,show (255:Nat)=2^8-1 from rfl,Nat.and_two_pow_sub_one_eq_mod,Nat.and_two_pow_sub_one_eq_mod];omega
theorem Qq8(a b c d:Nat)(ha:a<256)(hb:b<256)(hc:c<256)(hd:d<256):(b+65536*d)|||(256*a+16777216*c)=b+256*a+65536*d+16777216*c:=by
 have h:=Qmb d b (256*c) (256*a) dk dk;have e1:=QhG 8 a b dk;have e2:=QhG 8 c d dk;rw [show (2:Nat)^8=256 from rfl] at e1 e2;rw [show b+65536*d=2^16*d+b by omega,show 256*a+16777216*c=2^16*(256*c)+256*a by omega,h,e1,e2];omega
theorem Qfq(X:Nat)(hX:X<4294967296)(w:World):
  Calls prog 52 #[.int .u32 (X:Nat)] w fun e w'=>e=.returned (.int .u32 (rb4 X:Nat))/\w'=w:=by
 obtain ⟨a,ha⟩:=dt (X%256);obtain ⟨b,hb⟩:=dt (X/256%256);obtain ⟨c,I⟩:=dt (X/65536%256);obtain ⟨d,hd⟩:=dt (X/16777216%256);have P:rb4 X=d+256*c+65536*b+16777216*a:=by unfold rb4;rw [ha,hb,I,hd]
 have M:X=a+256*b+65536*c+16777216*d:=by
  have h:=Qhq X hX;rw [ha,hb,I,hd] at h;exact h
 have f:a<256:=dk;have ah:b<256:=dk;have al:c<256:=dk;have F:d<256:=dk;have q1:(X:Int)/256=((b+256*c+65536*d:Nat):Int):=dk;have q2:bits .and .u32 ((X:Int)/256) 16711935=((b+65536*d:Nat):Int):=by
  rw [q1,show (16711935:Int)=((16711935:Nat):Int) from rfl,u32_and_nat _ _ dk dn,Qqk a b c d f ah al F]
 have q3:bits .and .u32 (X:Int) 16711935=((a+65536*c:Nat):Int):=by
  rw [M,show (16711935:Int)=((16711935:Nat):Int) from rfl,u32_and_nat _ _ dk dn,QqU a b c d f ah al F]
 obtain ⟨U,hU⟩:=dt (b+65536*d);obtain ⟨V,hV⟩:=dt (a+65536*c);rw [hU] at q2;rw [hV] at q3;have q4:IntKind.u32.wrap ((V:Int)*256)=((256*a+16777216*c:Nat):Int):=by
  rw [IntKind.wrap_u32];omega
 obtain ⟨V2,ae⟩:=dt (256*a+16777216*c);rw [ae] at q4;have q5:bits .or .u32 (U:Int) (V2:Int)=((b+256*a+65536*d+16777216*c:Nat):Int):=by
  rw [u32_or_nat _ _ dk dk,<-hU,<-ae,Qq8 a b c d f ah al F]
 obtain ⟨Y,hY⟩:=dt (b+256*a+65536*d+16777216*c);rw [hY] at q5;have q6:(Y:Int)/65536=((d+256*c:Nat):Int):=dk;have q7:IntKind.u32.wrap ((Y:Int)*65536)=((2^16*(b+256*a):Nat):Int):=by
  rw [IntKind.wrap_u32];omega
 obtain ⟨S,hS⟩:=dt (d+256*c);obtain ⟨T,hT⟩:=dt (2^16*(b+256*a));rw [hS] at q6;rw [hT] at q7;have q8:bits .or .u32 (S:Int) (T:Int)=((rb4 X:Nat):Int):=by
  have e1:=QhG 16 (b+256*a) S dk;rw [u32_or_nat _ _ dk dk,<-hT,e1,P];omega
 clear P M ha hb I hd hU hV ae hY hS hT q1;generalize rb4 X=R at*;go_enter func52,ntmps52;exact ey
end Go.Proofs.YtgginbpmebgkcaaGreatDoor
