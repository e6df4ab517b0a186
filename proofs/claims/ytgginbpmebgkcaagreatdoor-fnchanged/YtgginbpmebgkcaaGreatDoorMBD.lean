import Derived.Test.YtgginbpmebgkcaaGreatDoorProg
import Derived.WalkKit
import Derived.WalkSpells
import Derived.WalkLawsBesides
import Derived.BigQuiet
import Derived.Laws.BitsAllLaws
import Derived.Deep.CutRange
import Derived.Deep.RegionWith
import Derived.Deep.RegionHeld3
import Derived.Deep.MidRow
import Derived.Deep.QuietTactic
import Derived.Deep.DrawnRows
import Derived.Test.YtgginbpmebgkcaaGreatDoorMAA
import Derived.Test.YtgginbpmebgkcaaGreatDoorMAB
import Derived.Test.YtgginbpmebgkcaaGreatDoorMAC
import Derived.Test.YtgginbpmebgkcaaGreatDoorMAD
namespace Go.Proofs.YtgginbpmebgkcaaGreatDoor.Adl
end Go.Proofs.YtgginbpmebgkcaaGreatDoor.Adl
namespace Go.Proofs.YtgginbpmebgkcaaGreatDoor.Crc
set_option maxRecDepth 100000
set_option maxHeartbeats 25600000
def half(c:Nat):Nat:=if c%2=1 then (c/2)^^^3988292384 else c/2
def halves:Nat->Nat->Nat
 | 0,c=>c
 | n+1,c=>halves n (half c)
theorem xor_half(x y:Nat):(x^^^y)/2=(x/2)^^^(y/2):=by
 have:=@Nat.shiftRight_xor_distrib 1 x y;simpa [Nat.shiftRight_succ] using this
theorem xor_mod(x y:Nat):(x^^^y)%2=(x%2+y%2)%2:=by
 have h:=Nat.testBit_xor x y 0;simp only [Nat.testBit_zero] at h;have r:=Nat.mod_two_eq_zero_or_one<|x^^^y
 rcases Nat.mod_two_eq_zero_or_one x with hx|hx<;>rcases Nat.mod_two_eq_zero_or_one y with hy|hy<;>rcases r with r|r<;>rw [hx,hy,r] at h<;>simp at h<;>omega
theorem half_xor(x y:Nat):half (x^^^y)=half x^^^half y:=by
 unfold half;rw [xor_half,xor_mod];have d:∀a b c:Nat,(a^^^b)^^^c=(a^^^c)^^^b:=by
  intro a b c;rw [Nat.xor_assoc,Nat.xor_comm b c,<-Nat.xor_assoc]
 rcases Nat.mod_two_eq_zero_or_one x with hx|hx<;>rcases Nat.mod_two_eq_zero_or_one y with hy|hy<;>simp only [hx,hy]
 ·simp
 ·simp [Nat.xor_assoc]
 ·simp;rw [d]
 ·simp
  rw [Nat.xor_assoc (x/2),Nat.xor_comm 3988292384,Nat.xor_assoc,Nat.xor_self,Nat.xor_zero]
theorem half_zero:half 0=0:=by decide
theorem half_lt(x:Nat)(h:x<4294967296):half x<4294967296:=by
 unfold half;split
 ·exact Nat.xor_lt_two_pow (n:=32) dk dn
 ·omega
theorem halves_zero(n:Nat):halves n 0=0:=by
 induction n with
 | zero=>rfl
 | succ n ih=>rw [halves,half_zero,ih]
theorem halves_xor(n x y:Nat):halves n (x^^^y)=halves n x^^^halves n y:=by
 induction n generalizing x y with
 | zero=>rfl
 | succ n ih=>rw [halves,half_xor,ih];rfl
theorem halves_add(m n x:Nat):halves (m+n) x=halves m (halves n x):=by
 induction n generalizing x with
 | zero=>rfl
 | succ n ih=>rw [<-Nat.add_assoc,halves,ih];rfl
theorem halves_succ(n x:Nat):halves (n+1) x=half (halves n x):=by
 rw [Nat.add_comm,halves_add];rfl
theorem halves_lt(n x:Nat)(h:x<4294967296):halves n x<4294967296:=by
 induction n generalizing x with
 | zero=>exact h
 | succ n ih=>exact ih _ (half_lt x h)
end Go.Proofs.YtgginbpmebgkcaaGreatDoor.Crc
namespace Go.Proofs.YtgginbpmebgkcaaGreatDoor.Adl
set_option maxRecDepth 100000
set_option maxHeartbeats 25600000
def up:Int->Int->List Int->Int×Int
 | s,t,[]=>(s,t)
 | s,t,x::xs=>up ((s+x)%65521) ((t+(s+x)%65521)%65521) xs
def raw:Int->Int->List Int->Int×Int
 | s,t,[]=>(s,t)
 | s,t,x::xs=>raw (s+x) (t+(s+x)) xs
theorem up_raw(s t:Int)(xs:List Int)(s' t':Int)(hs:s%65521=s'%65521)(ht:t%65521=t'%65521)(b:0<=s/\s<65521/\0<=t/\t<65521):
  up s t xs=((raw s' t' xs).1%65521,(raw s' t' xs).2%65521):=by
 induction xs generalizing s t s' t' with
 | nil=>simp only [up,raw];refine Prod.ext (by simp only;omega) (by simp only;omega)
 | cons x xs ih=>
  rw [up,raw];exact ih _ _ _ _ dk dk dk
theorem up_append(s t:Int)(xs ys:List Int):up s t (xs++ys)=up (up s t xs).1 (up s t xs).2 ys:=by
 induction xs generalizing s t with
 | nil=>rfl
 | cons x xs ih=>rw [List.cons_append,up,ih];rfl
theorem up_bd(s t:Int)(xs:List Int)(b:0<=s/\s<65521/\0<=t/\t<65521):0<=(up s t xs).1/\(up s t xs).1<65521/\0<=(up s t xs).2/\(up s t xs).2<65521:=by
 induction xs generalizing s t with
 | nil=>exact b
 | cons x xs ih=>exact ih _ _ dk
theorem raw_append(s t:Int)(xs ys:List Int):raw s t (xs++ys)=raw (raw s t xs).1 (raw s t xs).2 ys:=by
 induction xs generalizing s t with
 | nil=>rfl
 | cons x xs ih=>rw [List.cons_append,raw,ih];rfl
def tri:Nat->Nat
 | 0=>0
 | n+1=>tri n+(n+1)
theorem tri_eq(n:Nat):2*tri n=n*(n+1):=by
 induction n with
 | zero=>rfl
 | succ n ih=>rw [tri,Nat.mul_add,ih,<-Nat.add_mul,Nat.mul_comm]
theorem tri_le(n:Nat)(h:n<=5552):tri n<=15415128:=by
 have J:=tri_eq n;have h2:n*(n+1)<=5552*5553:=Nat.mul_le_mul h dk;omega
theorem raw_snoc(s t:Int)(xs:List Int)(x:Int):raw s t (xs++[x])=((raw s t xs).1+x,(raw s t xs).2+((raw s t xs).1+x)):=by
 rw [raw_append];rfl
theorem snoc_induction{P:List Int->Prop}(h0:P [])(h1:∀xs x,P xs->P (xs++[x]))(xs:List Int):P xs:=by
 rw [<-List.reverse_reverse xs];induction xs.reverse with
 | nil=>exact h0
 | cons x ys ih=>rw [List.reverse_cons];exact h1 _ _ ih
theorem raw_bd(s t:Int)(b:0<=s/\s<65521/\0<=t/\t<65521)(xs:List Int)(h:∀x∈xs,0<=x/\x<=255):
  0<=(raw s t xs).1/\(raw s t xs).1<=65520+255*xs.length/\0<=(raw s t xs).2/\(raw s t xs).2<=65520*(xs.length+1)+255*(tri xs.length:Nat):=by
 revert h;refine snoc_induction (P:=fun xs=>(∀x∈xs,0<=x/\x<=255)->0<=(raw s t xs).1/\(raw s t xs).1<=65520+255*xs.length/\0<=(raw s t xs).2/\(raw s t xs).2<=65520*(xs.length+1)+255*(tri xs.length:Nat)) ?_ ?_ xs
 ·intro _;simp [raw,tri];omega
 ·intro f x ih h
  have ih:=ih (fun z hz=>h z (by simp [hz]));have hx:=h x dr;rw [raw_snoc];simp only [List.length_append,List.length_cons,List.length_nil,Nat.zero_add,tri,Int.natCast_add,Int.natCast_one];omega
theorem raw_lt(s t:Int)(b:0<=s/\s<65521/\0<=t/\t<65521)(xs:List Int)(h:∀x∈xs,0<=x/\x<=255)(hl:xs.length<=5552):
  0<=(raw s t xs).1/\(raw s t xs).1<4294967296/\0<=(raw s t xs).2/\(raw s t xs).2<4294967296:=by
 have J:=raw_bd s t b xs h;have h2:=tri_le xs.length hl;omega
def whole(p:Int×Int):Int:=p.2*65536+p.1
theorem whole_lo(p:Int×Int)(h:0<=p.1/\p.1<65521/\0<=p.2/\p.2<65521):whole p%65536%65521=p.1/\whole p/65536%65521=p.2/\0<=whole p/\whole p<4294967296:=by
 unfold whole;omega
end Go.Proofs.YtgginbpmebgkcaaGreatDoor.Adl
namespace Go.Proofs.YtgginbpmebgkcaaGreatDoor.Crc
def one(c:Nat)(x:Int):Nat:=halves 8 (c^^^x.toNat)
def cr(c:Nat)(xs:List Int):Nat:=xs.foldl one c
theorem cr_nil(c:Nat):cr c []=c:=List.foldl_nil
theorem cr_cons(c:Nat)(x:Int)(xs:List Int):cr c (x::xs)=cr (one c x) xs:=List.foldl_cons ..
theorem cr_append(c:Nat)(xs ys:List Int):cr c (xs++ys)=cr (cr c xs) ys:=List.foldl_append ..
theorem cr_snoc(c:Nat)(xs:List Int)(x:Int):cr c (xs++[x])=one (cr c xs) x:=by
 rw [cr_append,cr_cons,cr_nil]
theorem one_xor(c d:Nat)(x:Int):one (c^^^d) x=one c x^^^halves 8 d:=by
 unfold one;rw [Nat.xor_assoc,Nat.xor_comm d,<-Nat.xor_assoc,halves_xor]
theorem cr_xor(c d:Nat)(xs:List Int):cr (c^^^d) xs=cr c xs^^^halves (8*xs.length) d:=by
 induction xs generalizing c d with
 | nil=>rw [cr_nil,cr_nil];rfl
 | cons x xs ih=>
  rw [cr_cons,cr_cons,one_xor,ih,<-halves_add,List.length_cons,Nat.mul_add]
theorem one_lt(c:Nat)(x:Int)(hc:c<4294967296)(h:0<=x/\x<=255):one c x<4294967296:=by
 unfold one;refine halves_lt _ _ (Nat.xor_lt_two_pow (n:=32) hc ?_);omega
theorem cr_lt(c:Nat)(xs:List Int)(hc:c<4294967296)(h:∀x∈xs,0<=x/\x<=255):cr c xs<4294967296:=by
 induction xs generalizing c with
 | nil=>rw [cr_nil];exact hc
 | cons x xs ih=>
  rw [cr_cons];exact ih _ (one_lt c x hc (h x dr)) (fun z hz=>h z (by simp [hz]))
def crc(xs:List Int):Nat:=cr 4294967295 xs^^^4294967295
end Go.Proofs.YtgginbpmebgkcaaGreatDoor.Crc
namespace Go.Proofs.YtgginbpmebgkcaaGreatDoor
open Go.RowKit Go.Proofs.Tryz
set_option maxRecDepth 100000
set_option maxHeartbeats 25600000
theorem Qd7{k:IntKind}{a b:Int}(h:a=b):Ending.returned (.int k a)=.returned (.int k b):=by rw [h]
theorem QjK(a:Int)(h0:0<=a)(h1:a<4294967296)(w:World):
  Calls prog 86 #[.int .u32 a] w fun e w'=>e=.returned (.tuple #[.int .u32 (a%65536%65521),.int .u32 (a/65536%65521)])/\w'=w:=by
 go_enter func86,ntmps86;go_wp2;go_ret2;exact d6
theorem QlF(h l:Int)(h0:0<=h)(h1:h<65536)(l0:0<=l)(l1:l<65536):bits .or .u32 (h*65536) l=h*65536+l:=by
 obtain ⟨H,rfl⟩:=Int.eq_ofNat_of_zero_le h0;obtain ⟨L,rfl⟩:=Int.eq_ofNat_of_zero_le l0;have e:((H:Int)*65536)=((H*65536:Nat):Int):=dk;rw [e,u32_or_nat _ _ dk dk];have e2:H*65536|||L=H*65536+L:=by
  have:=Nat.two_pow_add_eq_or_of_lt (i:=16) (b:=L) dk H;rw [Nat.mul_comm,show (2:Nat)^16=65536 from rfl] at this;exact this.symm
 omega
theorem QkZ{k:IntKind}{a b:Int}(h:a=b):Ending.returned (.int k a)=.returned (.int k b):=by rw [h]
theorem Qju(c:Nat)(h1:c<4294967296)(h:c%2=1):bits .xor .u32 ((c:Int)/2) 3988292384=((Crc.half c:Nat):Int):=by
 have e:((c:Int)/2)=((c/2:Nat):Int):=dk;rw [e,show (3988292384:Int)=((3988292384:Nat):Int) from rfl,u32_xor_nat _ _ dk dn];unfold Crc.half;rw [if_pos h]
theorem half_even(c:Nat)(h:¬c%2=1):((c:Int)/2)=((Crc.half c:Nat):Int):=by
 unfold Crc.half;rw [if_neg h];omega
theorem QiR(c:Nat)(h1:c<4294967296):bits .and .u32 (c:Int) 1=((c%2:Nat):Int):=by
 rw [show (1:Int)=((1:Nat):Int) from rfl,u32_and_nat _ _ h1 dn,Nat.and_one_is_mod]
theorem QmO(c:Nat)(h1:c<4294967296)(w:World):
  Calls prog 49 #[.int .u32 c] w fun e w'=>e=.returned (.int .u32 (Crc.half c:Nat))/\w'=w:=by
 by_cases h:c%2=1
 ·have hb:((c:Int)%2 == 1)=true:=du
  go_enter func49,ntmps49;go_wp2;go_ret;exact ⟨QkZ (Qju c h1 h),rfl⟩
 ·have hb:((c:Int)%2 == 1)=false:=du
  go_enter func49,ntmps49;go_wp2;go_ret;exact ⟨QkZ (half_even c h),rfl⟩
theorem QmS(c:Nat)(h1:c<4294967296)(w:World):
  Calls prog 145 #[.int .u32 c] w fun e w'=>e=.returned (.int .u32 (Crc.half c:Nat))/\w'=w:=by
 by_cases h:c%2=1
 ·have hb:(bits .and .u32 (c:Int) 1 == 1)=true:=by rw [QiR c h1];simp;omega
  go_enter func145,ntmps145;go_wp2;go_ret;exact ⟨QkZ (Qju c h1 h),rfl⟩
 ·have hb:(bits .and .u32 (c:Int) 1 == 1)=false:=by rw [QiR c h1];simp;omega
  go_enter func145,ntmps145;go_wp2;go_ret;exact ⟨QkZ (half_even c h),rfl⟩
theorem Qp3(a b:Nat)(ha:a<4294967296)(hb:b<4294967296):bits .xor .u32 (a:Int) (b:Int)=((a^^^b:Nat):Int):=u32_xor_nat a b ha hb
section
variable{zs:List Int}
theorem QdU(zs:List Int)(k:Nat)(h:k<zs.length):zs.take (k+1)=zs.take k++[zs.getD k 0]:=gv
theorem VL(h:Qh zs)(k:Nat):Qh (zs.take k):=fun z hz=>h z (List.mem_of_mem_take hz)
theorem Qjr(h:Qh zs)(k:Nat):Qh (zs.drop k):=fun z hz=>h z (List.mem_of_mem_drop hz)
theorem QcM(c:Nat)(h:c<4294967296):bits .xor .u32 4294967295 (c:Int)=((c^^^4294967295:Nat):Int):=by
 rw [show (4294967295:Int)=((4294967295:Nat):Int) from rfl,u32_xor_nat _ _ dn h,Nat.xor_comm]
theorem Qp7(s t:Int)(zs:List Int)(k:Nat)(h:k<zs.length):
  Adl.up s t (zs.take (k+1))=(((Adl.up s t (zs.take k)).1+zs.getD k 0)%65521,((Adl.up s t (zs.take k)).2+((Adl.up s t (zs.take k)).1+zs.getD k 0)%65521)%65521):=by
 rw [QdU zs k h,Adl.up_append];rfl
theorem Qkp(a:Int)(a0:0<=a)(a1:a<4294967296)(ao:Option Addr)(cap:Nat)(zs:List Int)(w:World)(hr:Q1 w ao zs)(ho:Qh zs)(hl:zs.length<=1048576):
  Calls prog 15 #[.int .u32 a,.slice ao zs.length cap] w fun e w'=>e=.returned (.int .u32 (Adl.whole (Adl.up (a%65536%65521) (a/65536%65521) zs)))/\w'=w:=by
 go_enter func15,ntmps15;go_wp2_with fail;go_loop [5,6,7] (fun s t i=>∃k:Nat,k<=zs.length/\i=.int .i64 k/\s=.int .u32 (Adl.up (a%65536%65521) (a/65536%65521) (zs.take k)).1/\t=.int .u32 (Adl.up (a%65536%65521) (a/65536%65521) (zs.take k)).2) (fun _ _ i=>zs.length-(intOf i).toNat)
 case atStart=>exact ⟨0,Nat.zero_le _,rfl,rfl,rfl⟩
 case round=>
  obtain ⟨k,hk,rfl,rfl,rfl⟩:=hrel;have l:=Adl.up_bd (a%65536%65521) (a/65536%65521) (zs.take k) dk;by_cases ab:k<zs.length
  ·have HN:dm _:=Qp7 (a%65536%65521) (a/65536%65521) zs k ab
   obtain ⟨b,U,rfl,I⟩:=hr.at ab;have a2:=I k ab;have hy:=ho.getD k;clear I hr ho;generalize Adl.up (a%65536%65521) (a/65536%65521) (zs.take k)=S at*;generalize zs.getD k 0=y at*;obtain ⟨s,t⟩:=S;simp only at l;go_wp2_with fail;go_round
   case rel=>exact ⟨k+1,dk,dw,fq,fq⟩
   case measure=>simp [intOf];omega
  ·have e:zs.take k=zs:=List.take_of_length_le dk
   rw [e] at l ⊢;obtain ⟨S,hS⟩:=dt (Adl.up (a%65536%65521) (a/65536%65521) zs);rw [hS] at l ⊢;have HS:dm _:=hS;clear hS;obtain ⟨s,t⟩:=S;simp only at l ⊢;clear hr ho;go_wp2_with fail;go_ret;exact ⟨Qd7 (by rw [HS.u];unfold Adl.whole;omega),rfl⟩
theorem QhM(c:Nat)(zs:List Int)(k:Nat)(h:k<zs.length):Crc.cr c (zs.take (k+1))=Crc.one (Crc.cr c (zs.take k)) (zs.getD k 0):=by
 rw [QdU zs k h,Crc.cr_snoc]
theorem QiU(c:Nat)(y:Int)(hc:c<4294967296)(hy:0<=y/\y<=255):bits .xor .u32 (c:Int) y=((c^^^y.toNat:Nat):Int)/\c^^^y.toNat<4294967296:=by
 obtain ⟨Y,rfl⟩:=Int.eq_ofNat_of_zero_le hy.1;exact ⟨Qp3 c Y hc dk,Nat.xor_lt_two_pow (n:=32) hc du⟩
theorem QbO(c:Nat)(c1:c<4294967296)(ao:Option Addr)(cap:Nat)(zs:List Int)(w:World)(hr:Q1 w ao zs)(ho:Qh zs)(hl:zs.length<=1048576):
  Calls prog 16 #[.int .u32 c,.slice ao zs.length cap] w fun e w'=>e=.returned (.int .u32 (Crc.cr (c^^^4294967295) zs^^^4294967295:Nat))/\w'=w:=by
 refine kI ?_;intro M x;go_enter func16,ntmps16;go_wp2_with fail;go_loop [0,5] (fun s i=>∃k:Nat,k<=zs.length/\i=.int .i64 k/\s=.int .u32 (Crc.cr (c^^^4294967295) (zs.take k):Nat)) (fun _ i=>zs.length-(intOf i).toNat)
 case atStart=>exact ⟨0,Nat.zero_le _,rfl,congrArg (Value.int .u32) M⟩
 case round=>
  obtain ⟨k,hk,rfl,rfl⟩:=hrel;have l:=Crc.cr_lt (c^^^4294967295) (zs.take k) x (VL ho k);by_cases ab:k<zs.length
  ·have HN:dm _:=QhM (c^^^4294967295) zs k ab
   obtain ⟨b,U,rfl,I⟩:=hr.at ab;have a2:=I k ab;have hy:=ho.getD k;clear I hr ho;have hx:=QiU (Crc.cr (c^^^4294967295) (zs.take k)) _ l hy;generalize Crc.cr (c^^^4294967295) (zs.take k)=s at*;generalize zs.getD k 0=y at*;have HX:dm _:=hx.1;have a5:=hx.2;clear hx;go_wp2_with fail;go_loop [0,6] (fun u j=>∃m:Nat,m<=8/\j=.int .i64 m/\u=.int .u32 (Crc.halves m (s^^^y.toNat):Nat)) (fun _ j=>8-(intOf j).toNat)
   case atStart=>exact ⟨0,Nat.zero_le _,rfl,congrArg (Value.int .u32) HX.u⟩
   case round=>
    obtain ⟨m,hm,rfl,rfl⟩:=hrel;have f:=Crc.halves_lt m _ a5;by_cases h8:m<8
    ·go_wp2_with (go_at_call 49;refine (QmO _ f _).mono ?_;rintro e w' ⟨rfl,rfl⟩)
     exact qe
    ·have e:m=8:=dk
     subst e;exact qg
  ·exact qh
theorem Qdy(c:Nat)(h:c<4294967296)(w:World):
  Calls prog 99 #[.int .u32 c] w fun e w'=>e=.returned (.int .u32 (Crc.halves 8 c:Nat))/\w'=w:=by
 go_enter func99,ntmps99;go_wp2_with fail;go_loop [0,3] (fun u j=>∃m:Nat,m<=8/\j=.int .i64 m/\u=.int .u32 (Crc.halves m c:Nat)) (fun _ j=>8-(intOf j).toNat)
 case atStart=>exact ⟨0,Nat.zero_le _,rfl,rfl⟩
 case round=>
  obtain ⟨m,hm,rfl,rfl⟩:=hrel;have f:=Crc.halves_lt m _ h;by_cases h8:m<8
  ·go_wp2_with (go_at_call 145;refine (QmS _ f _).mono ?_;rintro e w' ⟨rfl,rfl⟩)
   exact qe
  ·have e:m=8:=dk
   subst e;exact ey
theorem Qet(c:Nat)(c1:c<4294967296)(ao:Option Addr)(cap:Nat)(zs:List Int)(w:World)(hr:Q1 w ao zs)(ho:Qh zs)(hl:zs.length<=1048576):
  Calls prog 63 #[.int .u32 c,.slice ao zs.length cap] w fun e w'=>e=.returned (.int .u32 (Crc.cr (c^^^4294967295) zs^^^4294967295:Nat))/\w'=w:=by
 refine kI ?_;intro M x;go_enter func63,ntmps63;go_wp2_with fail;go_loop [0,11] (fun s i=>∃k:Nat,k<=zs.length/\i=.int .i64 k/\s=.int .u32 (Crc.cr (c^^^4294967295) (zs.take k):Nat)) (fun _ i=>zs.length-(intOf i).toNat)
 case atStart=>exact ⟨0,Nat.zero_le _,rfl,congrArg (Value.int .u32) M⟩
 case round=>
  obtain ⟨k,hk,rfl,rfl⟩:=hrel;have l:=Crc.cr_lt (c^^^4294967295) (zs.take k) x (VL ho k);by_cases ab:k<zs.length
  ·have HN:dm _:=QhM (c^^^4294967295) zs k ab
   obtain ⟨b,U,rfl,I⟩:=hr.at ab;have a2:=I k ab;have hy:=ho.getD k;clear I hr ho;have hx:=QiU (Crc.cr (c^^^4294967295) (zs.take k)) _ l hy;generalize Crc.cr (c^^^4294967295) (zs.take k)=s at*;generalize zs.getD k 0=y at*;have HX:dm _:=hx.1;have a5:=hx.2;clear hx;go_wp2_with fail;rw [HX.u];refine (Qdy _ a5 _).mono ?_;rintro e w' ⟨rfl,rfl⟩;exact qg
  ·exact qh
def Qc8:Value->Nat
 | .slice _ n _=>n
 | _=>0
theorem QhV(s t:Int)(zs:List Int)(k:Nat)(h:k<zs.length):
  Adl.raw s t (zs.take (k+1))=((Adl.raw s t (zs.take k)).1+zs.getD k 0,(Adl.raw s t (zs.take k)).2+((Adl.raw s t (zs.take k)).1+zs.getD k 0)):=by
 rw [QdU zs k h,Adl.raw_snoc]
theorem Qhj(a:Int)(a0:0<=a)(a1:a<4294967296)(ao:Option Addr)(cap:Nat)(zs:List Int)(w:World)(hr:Q1 w ao zs)(ho:Qh zs)(hcap:zs.length<=cap)(hl:zs.length<=1048576):
  Calls prog 53 #[.int .u32 a,.slice ao zs.length cap] w fun e w'=>e=.returned (.int .u32 (Adl.whole (Adl.up (a%65536%65521) (a/65536%65521) zs)))/\w'=w:=by
 go_enter func53,ntmps53;go_wp2_with fail;refine (QjK a a0 a1 _).mono ?_;rintro e w' ⟨rfl,rfl⟩;go_wp2_with fail;go_loop [1,5,6] (fun v s t=>∃ao' cap' xs f,zs=xs++f/\v=.slice ao' f.length cap'/\f.length<=cap'/\Q1 w' ao' f/\s=.int .u32 (Adl.up (a%65536%65521) (a/65536%65521) xs).1/\t=.int .u32 (Adl.up (a%65536%65521) (a/65536%65521) xs).2) (fun v _ _=>Qc8 v)
 case atStart=>exact ⟨ao,cap,[],zs,rfl,rfl,hcap,hr,rfl,rfl⟩
 case round=>
  clear hr hcap;obtain ⟨ao,cap,xs,f,rfl,rfl,hcap,hr,rfl,rfl⟩:=hrel;have l:=Adl.up_bd (a%65536%65521) (a/65536%65521) xs dk;by_cases aj:0<f.length
  ·obtain ⟨b,U,rfl,I⟩:=hr.at aj
   obtain ⟨S,hS⟩:=dt (Adl.up (a%65536%65521) (a/65536%65521) xs);have HS:dm _:=hS;have HR:dm _:=hr;rw [hS] at l ⊢;clear hS hr;have g:dm (Qh f):=fun z hz=>ho z (List.mem_append_right _ hz)
   clear ho;have ak:f.length<=1048576:=qi;clear hl;obtain ⟨s,t⟩:=S;simp only at l ⊢;by_cases E:f.length<=5552
   ·go_wp2_with fail
    go_loop [5,6,25] (fun p q i=>∃j:Nat,j<=f.length/\i=.int .i64 j/\p=.int .u32 (Adl.raw s t (f.take j)).1/\q=.int .u32 (Adl.raw s t (f.take j)).2) (fun _ _ i=>f.length-(intOf i).toNat)
    case atStart=>exact ⟨0,Nat.zero_le _,rfl,rfl,rfl⟩
    case round=>
     obtain ⟨j,hj,rfl,rfl,rfl⟩:=hrel;have hb:=Adl.raw_lt s t l (f.take j) (VL g.u j) dS;by_cases ab:j<f.length
     ·have ah:=Adl.raw_lt s t l (f.take (j+1)) (VL g.u (j+1)) dS
      have M:=QhV s t f j dk;rw [M] at ah;have HN:dm _:=M;have a2:=I j dk;have hy:=g.u.getD j;clear I M;generalize Adl.raw s t (f.take j)=P at*;generalize f.getD j 0=y at*;obtain ⟨p,q⟩:=P;simp only at hb ah;go_wp2_with fail;go_round
      case rel=>exact ⟨j+1,dk,dw,fq,fq⟩
      case measure=>simp [intOf];omega
     ·have e:j=f.length:=dk
      subst e;have D:=Adl.up_raw s t (f.take f.length) s t rfl rfl l;have o:dm _:=D;clear D I;have HB:dm (0<=(Adl.raw s t (f.take f.length)).1/\0<=(Adl.raw s t (f.take f.length)).2):=⟨hb.1,hb.2.2.1⟩;generalize Adl.raw s t (f.take f.length)=P at*;obtain ⟨p,q⟩:=P;simp only at hb;go_wp2_with fail;have J:Adl.up (a%65536%65521) (a/65536%65521) (xs++f)=(p%65521,q%65521):=by
       rw [Adl.up_append,HS.u];have:=o.u;rwa [List.take_length] at this
      exact ⟨⟨_,_,xs++f,[],dr,rfl,dr,Q1.nil _ _,by rw [J],by rw [J]⟩,by simp [Qc8];omega⟩
   ·obtain ⟨m,hm⟩:∃m:Nat,m=5552:=⟨_,rfl⟩
    have L:(5552:Int)<f.length:=dk;go_wp2_with fail;rw [<-hm];have c:(m:Int)<=5552:=dk;have Y:(5552:Int)<=m:=dk;have aa:m<f.length:=dk;have HM:dm (m=5552):=hm;rw [show (5552:Int)=(m:Int) by omega];clear hm L;go_loop [5,6,25] (fun p q i=>∃j:Nat,j<=m/\i=.int .i64 j/\p=.int .u32 (Adl.raw s t (f.take j)).1/\q=.int .u32 (Adl.raw s t (f.take j)).2) (fun _ _ i=>m-(intOf i).toNat)
    case atStart=>exact ⟨0,Nat.zero_le _,rfl,rfl,rfl⟩
    case round=>
     obtain ⟨j,hj,rfl,rfl,rfl⟩:=hrel;have hb:=Adl.raw_lt s t l (f.take j) (VL g.u j) dS;by_cases ab:j<m
     ·have ah:=Adl.raw_lt s t l (f.take (j+1)) (VL g.u (j+1)) dS
      have M:=QhV s t f j dk;rw [M] at ah;have HN:dm _:=M;have a2:=I j dk;have hy:=g.u.getD j;clear I M;generalize Adl.raw s t (f.take j)=P at*;generalize f.getD j 0=y at*;obtain ⟨p,q⟩:=P;simp only at hb ah;clear c Y;go_wp2_with fail;go_round
      case rel=>exact ⟨j+1,dk,by clear HN;go_num,fq,fq⟩
      case measure=>simp [intOf];omega
     ·have e:j=m:=dk
      rw [e];have hb:=Adl.raw_lt s t l (f.take m) (VL g.u m) dS;have D:=Adl.up_raw s t (f.take m) s t rfl rfl l;have o:dm _:=D;clear D I;have HB:dm (0<=(Adl.raw s t (f.take m)).1/\0<=(Adl.raw s t (f.take m)).2):=⟨hb.1,hb.2.2.1⟩;generalize Adl.raw s t (f.take m)=P at*;obtain ⟨p,q⟩:=P;simp only at hb;clear c Y;go_wp2_with fail;have hm:=HM.u;have J:Adl.up (a%65536%65521) (a/65536%65521) (xs++f.take m)=(p%65521,q%65521):=by
       rw [Adl.up_append,HS.u];exact o.u
      have hcut:=Q1.cut (cap:=cap) (k:=m) HR.u hcap;have e2:Qa2 (some ⟨b,U,none⟩) cap m=some ⟨b,U+m,none⟩:=by
       unfold Qa2;rw [if_neg dk];simp [Addr.add_lit]
      rw [e2] at hcut;have R:(f.drop m).length=f.length-m:=by rw [List.length_drop]
      exact ⟨⟨some ⟨b,U+m,none⟩,cap-m,xs++f.take m,f.drop m,dr,by rw [R],by rw [R];omega,hcut,by rw [J],by rw [J]⟩,by simp only [Qc8];omega⟩
  ·have e:f=[]:=List.length_eq_zero_iff.mp dk
   subst e;obtain ⟨S,hS⟩:=dt (Adl.up (a%65536%65521) (a/65536%65521) xs);have HS:dm _:=hS;rw [hS] at l ⊢;clear hS;obtain ⟨s,t⟩:=S;simp only at l ⊢;clear hr ho;go_wp2_with fail;go_ret;exact ⟨Qd7 (by rw [HS.u,QlF t s dk dk dk dk];rfl),rfl⟩
end
end Go.Proofs.YtgginbpmebgkcaaGreatDoor
namespace Go.Proofs.YtgginbpmebgkcaaGreatDoor
open Go.RowKit Go.Proofs.Tryz
attribute [local go_sem ↓] Go.wp_at_zero Go.wp_at_succ
set_option maxRecDepth 100000
set_option maxHeartbeats 25600000
def Adl.adl(zs:List Int):Int:=Adl.whole (Adl.up 1 0 zs)
theorem QcC(zs:List Int):0<=Adl.adl zs/\Adl.adl zs<4294967296:=(Adl.whole_lo _ (Adl.up_bd 1 0 zs dk)).2.2
theorem QnB(zs:List Int)(h:Qh zs):Crc.crc zs<4294967296:=Nat.xor_lt_two_pow (n:=32) (Crc.cr_lt _ zs dn h) dn
theorem Qjg(co:Option Addr)(cc:Nat)(cs:List Int)(i:Nat)(w:World)(hr:Q1 w co cs)(ho:Qh cs)(hi:i<=1048576):
  Calls prog 10 #[.slice co cs.length cc,.int .i64 i] w fun e w'=>(∃x:Int,e=.returned (.int .i64 x)/\0<=x/\x<=255)/\w'=w:=by
 by_cases ab:i<cs.length
 ·obtain ⟨b,U,rfl,I⟩:=hr.at ab
  have a2:=I i ab;have hy:=ho.getD i;clear I hr ho;generalize cs.getD i 0=y at*;go_enter func10,ntmps10;go_wp2_with fail;go_ret;exact ⟨⟨y,rfl,hy⟩,rfl⟩
 ·clear hr ho
  go_enter func10,ntmps10;go_wp2_with fail;go_ret;exact ⟨⟨_,rfl,dk⟩,rfl⟩
theorem QbS(ao:Option Addr)(cap:Nat)(zs:List Int)(w:World)(hr:Q1 w ao zs)(ho:Qh zs)(hl:zs.length<=1048576):
  Calls prog 15 #[.int .u32 1,.slice ao zs.length cap] w fun e w'=>e=.returned (.int .u32 (Adl.adl zs))/\w'=w:=
 Qkp 1 dn dn ao cap zs w hr ho hl
theorem Qmu(ao:Option Addr)(cap:Nat)(zs:List Int)(w:World)(hr:Q1 w ao zs)(ho:Qh zs)(hl:zs.length<=1048576):
  Calls prog 16 #[.int .u32 0,.slice ao zs.length cap] w fun e w'=>e=.returned (.int .u32 (Crc.crc zs:Nat))/\w'=w:=by
 have h:=QbO 0 dn ao cap zs w hr ho hl;rw [Nat.zero_xor] at h;exact h
theorem Qn9(a:Int)(a0:0<=a)(a1:a<4294967296)(ao:Option Addr)(cap:Nat)(zs:List Int)(n:Nat)(hn:zs.length=n)(w:World)(hr:Q1 w ao zs)(ho:Qh zs)(hcap:zs.length<=cap)(hl:zs.length<=65536):
  Calls prog 24 #[.int .u32 a,.slice ao n cap] w fun e w'=>e=.returned (.int .u32 (Adl.whole (Adl.up (a%65536%65521) (a/65536%65521) zs)))/\w'=w:=by
 subst hn;go_enter func24,ntmps24;go_wp2_with fail;refine (Qhj a a0 a1 ao cap zs _ hr ho hcap dk).mono ?_;rintro e w' ⟨rfl,rfl⟩;exact ey
theorem QbL(ao:Option Addr)(cap:Nat)(zs:List Int)(n:Nat)(hn:zs.length=n)(w:World)(hr:Q1 w ao zs)(ho:Qh zs)(hcap:zs.length<=cap)(hl:zs.length<=65536):
  Calls prog 24 #[.int .u32 1,.slice ao n cap] w fun e w'=>e=.returned (.int .u32 (Adl.adl zs))/\w'=w:=
 Qn9 1 dn dn ao cap zs n hn w hr ho hcap hl
theorem Qf1(c:Nat)(c1:c<4294967296)(ao:Option Addr)(cap:Nat)(zs:List Int)(n:Nat)(hn:zs.length=n)(w:World)(hr:Q1 w ao zs)(ho:Qh zs)(hl:zs.length<512):
  Calls prog 30 #[.int .u32 c,.slice ao n cap] w fun e w'=>e=.returned (.int .u32 (Crc.cr (c^^^4294967295) zs^^^4294967295:Nat))/\w'=w:=by
 subst hn;have hi:(zs.length:Int)<512:=dk;clear hl;go_enter func30,ntmps30;go_wp2_with fail;refine (Qet c c1 ao cap zs _ hr ho dk).mono ?_;rintro e w' ⟨rfl,rfl⟩;exact ey
theorem Qmy(ao:Option Addr)(cap:Nat)(zs:List Int)(n:Nat)(hn:zs.length=n)(w:World)(hr:Q1 w ao zs)(ho:Qh zs)(hl:zs.length<512):
  Calls prog 30 #[.int .u32 0,.slice ao n cap] w fun e w'=>e=.returned (.int .u32 (Crc.crc zs:Nat))/\w'=w:=by
 have h:=Qf1 0 dn ao cap zs n hn w hr ho hl;rw [Nat.zero_xor] at h;exact h
end Go.Proofs.YtgginbpmebgkcaaGreatDoor
namespace Go.Proofs.YtgginbpmebgkcaaGreatDoor.Crc
set_option maxRecDepth 100000
set_option maxHeartbeats 25600000
theorem half_even(m:Nat):half (2*m)=m:=by
 unfold half;rw [if_neg dk];omega
theorem halves_even(n m:Nat):halves n (2^n*m)=m:=by
 induction n with
 | zero=>simp [halves]
 | succ n ih=>
  rw [halves,Nat.pow_succ,Nat.mul_comm (2^n) 2,Nat.mul_assoc,half_even];exact ih
theorem halves_up(k m:Nat):halves (8*(k+1)) (256*m)=halves (8*k) m:=by
 rw [show 8*(k+1)=8*k+8 by omega,halves_add];congr 1;exact halves_even 8 m
theorem split_byte(c:Nat):c=256*(c/256)^^^c%256:=by
 apply Nat.eq_of_testBit_eq;intro i;rw [Nat.testBit_xor,show 256*(c/256)=2^8*(c/2^8) from rfl,show c%256=c%2^8 from rfl,Nat.testBit_two_pow_mul,Nat.testBit_mod_two_pow,Nat.testBit_div_two_pow];by_cases h:8<=i
 ·simp [h,show ¬i<8 by omega]
 ·simp [h,show i<8 by omega]
def tab(k x:Nat):Nat:=halves (8*(k+1)) x
theorem tab_lt(k x:Nat)(h:x<4294967296):tab k x<4294967296:=halves_lt _ _ h
theorem halves_byte(c:Nat):halves 8 c=c/256^^^tab 0 (c%256):=by
 conv=>lhs;rw [split_byte c]
 rw [halves_xor];congr 1;exact halves_even 8 _
theorem tab_succ(k x:Nat):tab (k+1) x=tab k x/256^^^tab 0 (tab k x%256):=by
 rw [<-halves_byte];unfold tab;rw [<-halves_add];congr 1;omega
theorem xor_low(c x:Nat)(h:x<256):(c^^^x)/256=c/256/\(c^^^x)%256=c%256^^^x:=by
 have J:=@Nat.shiftRight_xor_distrib 8 c x;have h2:=@Nat.xor_mod_two_pow c x 8;constructor
 ·have e:x >>> 8=0:=by rw [Nat.shiftRight_eq_div_pow];omega
  rw [e,Nat.xor_zero,Nat.shiftRight_eq_div_pow,Nat.shiftRight_eq_div_pow] at J;exact J
 ·have e:x%2^8=x:=dk
  rw [e] at h2;exact h2
theorem one_tab(c:Nat)(x:Int)(h:0<=x/\x<=255):one c x=c/256^^^tab 0 (c%256^^^x.toNat):=by
 unfold one;rw [halves_byte,(xor_low c x.toNat dk).1,(xor_low c x.toNat dk).2]
theorem cr_zero(c:Nat)(xs:List Int):cr c xs=halves (8*xs.length) c^^^cr 0 xs:=by
 have h:=cr_xor 0 c xs;rw [Nat.zero_xor] at h;rw [h,Nat.xor_comm]
theorem cr_zero_cons(x:Int)(xs:List Int):cr 0 (x::xs)=halves (8*(xs.length+1)) x.toNat^^^cr 0 xs:=by
 rw [cr_cons,cr_zero];congr 1;unfold one;rw [Nat.zero_xor,<-halves_add];congr 1
theorem halves_rest(k c:Nat):halves (8*(k+1)) c=tab k (c%256)^^^halves (8*k) (c/256):=by
 conv=>lhs;rw [split_byte c]
 rw [halves_xor,halves_up,Nat.xor_comm];rfl
theorem halves_four(k c:Nat)(h:c<4294967296):halves (8*(k+4)) c=tab (k+3) (c%256)^^^tab (k+2) (c/256%256)^^^tab (k+1) (c/65536%256)^^^tab k (c/16777216):=by
 rw [show k+4=(k+3)+1 from rfl,halves_rest,show k+3=(k+2)+1 from rfl,halves_rest,show k+2=(k+1)+1 from rfl,halves_rest,halves_rest];rw [Nat.div_div_eq_div_mul,Nat.div_div_eq_div_mul,Nat.div_div_eq_div_mul];have e:c/(256*256*256*256)=0:=dk;have e2:c/(256*256*256)%256=c/16777216:=dk;have R:(256*256:Nat)=65536:=rfl;rw [e,e2,R,halves_zero,Nat.xor_zero];rw [Nat.xor_assoc,Nat.xor_assoc]
theorem eight_tab(c b0 b1 b2 b3 b4 b5 b6 b7:Nat)(h0:b0<256)(h1:b1<256)(h2:b2<256)(h3:b3<256):
  cr c [(b0:Int),b1,b2,b3,b4,b5,b6,b7]=halves 64 (c^^^(b0|||b1*256|||b2*65536|||b3*16777216))^^^tab 3 b4^^^tab 2 b5^^^tab 1 b6^^^tab 0 b7:=by
 have o1:b0|||b1*256=b1*256+b0:=by
  have:=Nat.two_pow_add_eq_or_of_lt (i:=8) (b:=b0) h0 b1;rw [Nat.or_comm,Nat.mul_comm];exact this.symm
 have o2:(b1*256+b0)|||b2*65536=b2*65536+(b1*256+b0):=by
  have:=Nat.two_pow_add_eq_or_of_lt (i:=16) (b:=b1*256+b0) dk b2;rw [Nat.or_comm,Nat.mul_comm b2];exact this.symm
 have o3:(b2*65536+(b1*256+b0))|||b3*16777216=b3*16777216+(b2*65536+(b1*256+b0)):=by
  have:=Nat.two_pow_add_eq_or_of_lt (i:=24) (b:=b2*65536+(b1*256+b0)) dk b3;rw [Nat.or_comm,Nat.mul_comm b3];exact this.symm
 rw [o1,o2,o3,halves_xor,cr_zero];simp only [cr_zero_cons,List.length_cons,List.length_nil,Int.toNat_natCast,cr_nil,Nat.xor_zero];rw [show (64:Nat)=8*(4+4) from rfl,halves_four 4 (b3*16777216+(b2*65536+(b1*256+b0))) dk];have q0:(b3*16777216+(b2*65536+(b1*256+b0)))%256=b0:=dk;have q1:(b3*16777216+(b2*65536+(b1*256+b0)))/256%256=b1:=dk;have q2:(b3*16777216+(b2*65536+(b1*256+b0)))/65536%256=b2:=dk;have q3:(b3*16777216+(b2*65536+(b1*256+b0)))/16777216=b3:=dk;rw [q0,q1,q2,q3];simp only [tab,Nat.xor_assoc]
end Go.Proofs.YtgginbpmebgkcaaGreatDoor.Crc
namespace Go.Proofs.YtgginbpmebgkcaaGreatDoor
open Go.RowKit Go.Proofs.Tryz
set_option maxRecDepth 100000
set_option maxHeartbeats 25600000
section
variable{n p:Nat}{w:World}
theorem Tryz.zero_tables:(prog.info? 167).map (fun i=>i.zero)=some (some (.agg (Array.replicate 2048 (.int .u32 0)))):=by kernel_rfl
theorem Qe5(w:World):(zeroValue 167).run prog w=.ok (.agg (Array.replicate 2048 (.int .u32 0))) w:=by
 obtain ⟨i,hi,r⟩:=Option.map_eq_some_iff.1 Tryz.zero_tables;simp [zeroValue,typeInfo,go_sem,hi,r]
structure QbZ(w:World)(p n:Nat):Prop where
 made:∀i,i<n->w.cell? ⟨p,i,none⟩=some (.int .u32 (Crc.tab (i/256) (i%256):Nat))
 all:∀i,i<2048->∃v:Int,w.cell? ⟨p,i,none⟩=some (.int .u32 v)
 free:∀i,w.frozen? ⟨p,i,none⟩=false
theorem QbZ.set(h:QbZ w p n)(hn:n<2048)(v:Int)(hv:v=(Crc.tab (n/256) (n%256):Nat)):QbZ (w.setCell ⟨p,n,none⟩ (.int .u32 v)) p (n+1):=by
 obtain ⟨t,H⟩:=h.all n hn;refine ⟨?_,?_,?_⟩
 ·intro i hi
  by_cases e:i=n
  ·subst e;subst hv
   exact World.cell?_setCell_same _ _ _ H
  ·rw [World.cell?_setCell_other _ _ _ _ dr]
   exact h.made i dk
 ·intro i hi
  by_cases e:i=n
  ·subst e
   exact ⟨v,World.cell?_setCell_same _ _ _ H⟩
  ·rw [World.cell?_setCell_other _ _ _ _ dr]
   exact h.all i hi
 ·intro i
  rw [World.frozen?_setCell];exact h.free i
theorem QbZ.drew(h:QbZ w p n):QbZ w.drew p n:=⟨h.made,h.all,h.free⟩
theorem QbZ.new(w:World):QbZ (w.alloc (.cells (Array.replicate 2048 (.int .u32 0)) 167)) w.heap.size 0:=by
 refine ⟨fun i hi=>dk,fun i hi=>⟨0,?_⟩,fun i=>?_⟩
 ·simp [go_sem,hi]
 ·simp [go_sem]
def Qfo(k:Nat):List Value:=(List.range 256).map (fun x=>Value.int .u32 (Crc.tab k x:Nat))
theorem QgH(k:Nat):(Qfo k).length=256:=by simp [Qfo]
theorem QiH(k x:Nat)(h:x<256):(Qfo k)[x]?=some (Value.int .u32 (Crc.tab k x:Nat)):=by simp [Qfo,h]
theorem QbZ.range(h:QbZ w p n)(k:Nat)(hk:(k+1)*256<=n):w.rangeAt p (k*256) (Qfo k):=by
 intro j v V;have hj:j<256:=by
  have J:=(List.getElem?_eq_some_iff.1 V).1;rwa [QgH] at J
 rw [QiH k j hj] at V;simp only [Option.some.injEq] at V;subst V;rw [h.made (k*256+j) dk];rw [show (k*256+j)/256=k by omega,show (k*256+j)%256=j by omega]
theorem Tryz.size_u32:(prog.info? 38).map (·.size)=some 1:=by kernel_rfl
theorem Qgd{P:Program}{t e:TypeId}{k:IntKind}(L:List Value)(x:Nat)(v:Value)(hu:P.underlying t=some (.array n e))(he:P.underlying e=some (.int k))(hs:(P.info? e).map (·.size)=some 1)(h:x<n)(hv:L[x]?=some v)(w:World):(Instr.index t (.agg L.toArray) (.int .i64 x)).run P w=.ok v w:=by
 obtain ⟨i,hi,hs⟩:=Option.map_eq_some_iff.1 hs;unfold Instr.index;simp only [asIntOf,Sem.run_bind,Sem.run_pure,Result.andThen_ok,run_underlying hu];rw [if_pos ⟨dk,dk⟩];simp [part,isAgg,sizeOf,typeInfo,Sem.run_bind,run_underlying he,hi,hs,hv,go_sem]
theorem Qgj(L:List Value)(x:Nat)(v:Value)(h:x<256)(hv:L[x]?=some v)(w:World):(Instr.index 165 (.agg L.toArray) (.int .i64 x)).run prog w=.ok v w:=
 Qgd L x v underlying165 underlying38 Tryz.size_u32 h hv w
theorem Tryz.size_row:(prog.info? 165).map (·.size)=some 256:=by kernel_rfl
theorem QjS(w:World):Calls prog 64 #[] w fun e w'=>e=.returned (.pointer (some ⟨w.heap.size,0,none⟩))/\QbZ w' w.heap.size 2048/\Below w.heap.size w w':=by
 have f:=QbZ.new w;have C:Below w.heap.size w (w.alloc (.cells (Array.replicate 2048 (.int .u32 0)) 167)):=(Below.refl _ _).alloc (Nat.le_refl _) _;have r:=Qe5 w;generalize Array.replicate 2048 (Value.int .u32 0)=Z at*;go_enter func64,ntmps64;go_upto_region 2 with fail;go_wp2_with fail;clear r;go_loopw [6] (fun i wr=>∃x:Nat,x<=256/\i=.int .i64 x/\QbZ wr w.heap.size x/\Below w.heap.size w wr) (fun i _=>256-(intOf i).toNat)
 case atStart=>exact ⟨0,dk,rfl,f,C⟩
 case round=>
  clear f C;obtain ⟨x,hx,rfl,hT,a⟩:=hrel;by_cases ab:x<256
  ·obtain ⟨t,I⟩:=hT.all x dk
   have Q:=hT.free x;have E:=hT.set dk (Crc.tab 0 x:Nat) (by rw [Nat.div_eq_of_lt ab,Nat.mod_eq_of_lt ab]);have hb:=a.grown (Qf wr ⟨w.heap.size,x,none⟩ (.int .u32 (Crc.tab 0 x:Nat))) a.size dz;have HZ:dm _:=Qdy x dk;have bx:(x:Int)<256:=dk;have bH:(0:Int)<=x:=dk;have K:Crc.tab 0 x=Crc.halves 8 x:=rfl;rw [K] at E hb;clear hT a ab hx;go_wp2_with fail;refine Calls.mono (HZ.u _) ?_;rintro e w' ⟨rfl,rfl⟩;clear HZ;go_wp2_with fail;go_roundw
   case rel=>exact ⟨x+1,dk,dw,E,hb⟩
   case measure=>simp [intOf];omega
  ·have e:x=256:=dk
   have bx:¬(x:Int)<256:=dk;have b:QbZ wr w.heap.size (1*256):=by rw [e] at hT;exact hT
   clear ab hx hT e;go_wp2_with fail;clear bx;go_loopw [3] (fun kk wr=>∃k:Nat,1<=k/\k<=8/\kk=.int .i64 k/\QbZ wr w.heap.size (k*256)/\Below w.heap.size w wr) (fun k _=>8-(intOf k).toNat)
   case atStart=>exact ⟨1,dk,dk,rfl,b,a⟩
   case round=>
    clear b a;obtain ⟨k,au,hk,rfl,hT,a⟩:=hrel;by_cases ab:k<8
    ·obtain ⟨j,u⟩:∃j,k=j+1:=⟨k-1,dk⟩
     have M:(k:Int)-1=(j:Int):=dk;have H:(j:Int)<8:=dk;have cA:(0:Int)<=(j:Int):=dk;have aA:(0:Int)<=(k:Int):=dk;have o:=hT.range j dk;have hL:=QgH j;have l:∀x,x<256->(Qfo j)[x]?=some (Value.int .u32 (Crc.tab j x:Nat)):=fun x hx=>QiH j x hx
     obtain ⟨L,q⟩:=dt (Qfo j);rw [q] at o hL l;have D:(prog.info? 165).map (·.size)=some L.length:=by rw [hL];exact Tryz.size_row
     have bc:dm _:=l;have G:(k:Int)<8:=dk;have y:dm (k=j+1):=u;clear q l hL ab hk au u;go_wp2_with (refine wpList_load_mid rfl _ _ rfl _ _ rfl L _ o underlying165 rfl D ?_)
     clear o D;go_loopw [24] (fun i wx=>∃x:Nat,x<=256/\i=.int .i64 x/\QbZ wx w.heap.size (k*256+x)/\Below w.heap.size w wx) (fun i _=>256-(intOf i).toNat)
     case atStart=>exact ⟨0,dk,rfl,by rw [Nat.add_zero];exact hT,a⟩
     case round=>
      clear hT a;obtain ⟨x,hx,rfl,hT,a⟩:=hrel;by_cases m:x<256
      ·have l:=bc.u x m
       have bs:=Crc.tab_lt j x dk;obtain ⟨c,I⟩:=dt (Crc.tab j x);rw [I] at l bs;have g:=hT.made (c%256) dk;rw [show c%256/256=0 by omega,show c%256%256=c%256 by omega] at g;have A:=Crc.tab_lt 0 (c%256) dk;have s:bits .xor .u32 ((c/256:Nat):Int) ((Crc.tab 0 (c%256):Nat):Int)=((Crc.tab k x:Nat):Int):=by
        rw [u32_xor_nat _ _ dk A,y.u,Crc.tab_succ,I]
       have an:bits .and .u32 (c:Int) 255=((c%256:Nat):Int):=by
        rw [show (255:Int)=((255:Nat):Int) from rfl,u32_and_nat _ _ bs dn,show (255:Nat)=2^8-1 from rfl,Nat.and_two_pow_sub_one_eq_mod]
       obtain ⟨t,z⟩:=hT.all (k*256+x) dk;have Q:=hT.free<|k*256+x
       have E:=hT.set dk (Crc.tab k x:Nat) (by rw [show (k*256+x)/256=k by omega,show (k*256+x)%256=x by omega]);have hb:=a.grown (Qf _ ⟨w.heap.size,k*256+x,none⟩ (.int .u32 (Crc.tab k x:Nat))) a.size dz;have bx:(x:Int)<256:=dk;have bH:(0:Int)<=x:=dk;obtain ⟨p,F⟩:=dt (c%256);obtain ⟨n,v⟩:=dt (c/256);obtain ⟨h,f⟩:=dt (Crc.tab 0 (c%256));obtain ⟨V,ag⟩:=dt (Crc.tab k x);have B:(p:Int)<256:=dk;have aB:(c:Int)/256=(n:Int):=dk;rw [f,F] at g;rw [v,f,ag] at s;rw [F] at an;rw [ag] at E hb;have J:=Qgj L x _ m l wr;have d:(wr.setCell ⟨w.heap.size,k*256+x,none⟩ (.int .u32 V)).drew.cell? ⟨w.heap.size,p,none⟩=some (.int .u32 h):=by
        show (wr.setCell ⟨w.heap.size,k*256+x,none⟩ (.int .u32 V)).cell? ⟨w.heap.size,p,none⟩=some (.int .u32 h);rw [World.cell?_setCell_other _ _ _ _ (by intro e;simp only [Addr.mk.injEq] at e;omega)];exact g
       clear hT a m hx I F v f ag;go_wp2_with fail;go_region_held3 (fun w'=>w'.cell? ⟨w.heap.size,p,none⟩=some (.int .u32 h)) (first|assumption|(go_keep;done)) (fail)
       go_wp2_with fail;go_roundw
       case rel=>exact ⟨x+1,dk,dw,by rw [<-Nat.add_assoc];exact E.drew,hb.drew⟩
       case measure=>simp [intOf];omega
      ·have bx:¬(x:Int)<256:=dk
       have b:QbZ wr w.heap.size ((k+1)*256):=by rw [show (k+1)*256=k*256+x by omega];exact hT
       clear m hx hT;go_wp2_with fail;go_roundw
       case rel=>exact ⟨k+1,dk,dk,dw,b,a⟩
       case measure=>simp [intOf];omega
    ·have e:k=8:=dk
     subst e;go_wp2_with fail;go_ret;exact ⟨rfl,hT,a⟩
end
end Go.Proofs.YtgginbpmebgkcaaGreatDoor
namespace Go.Proofs.YtgginbpmebgkcaaGreatDoor
open Go.RowKit Go.Proofs.Tryz
attribute [local go_sem ↓] Go.wp_at_zero Go.wp_at_succ
set_option maxRecDepth 100000
set_option maxHeartbeats 25600000
theorem Qrt(ys:List Int)(h:8<=ys.length):ys.take 8=[ys.getD 0 0,ys.getD 1 0,ys.getD 2 0,ys.getD 3 0,ys.getD 4 0,ys.getD 5 0,ys.getD 6 0,ys.getD 7 0]:=by
 match ys,h with
 | a::b::c::d::e::f::g::i::t,_=>rfl
theorem QhY{w:World}{b off cap k:Nat}{zs:List Int}(h:Q1 w (some ⟨b,off,none⟩) zs)(hc:zs.length<=cap):Q1 w (if cap=k then some ⟨b,off,none⟩ else some ⟨b,off+k,none⟩) (zs.drop k):=by
 intro i hi;rw [List.length_drop] at hi;obtain ⟨c,a,e,z⟩:=h (k+i) dk;simp only [Option.some.injEq,Addr.mk.injEq,and_true] at e;obtain ⟨rfl,rfl⟩:=e;rw [if_neg dk];refine ⟨b,off+k,rfl,?_⟩;rw [Nat.add_assoc,z];simp [List.getD]
theorem Qi2(w:World)(a b:Nat):(w.drewN a).drewN b=w.drewN (a+b):=by
 simp [World.drewN,Nat.add_assoc]
theorem Qn6(p:Nat)(c:Nat)(c1:c<4294967296)(ao:Option Addr)(cap:Nat)(zs:List Int)(w:World)(hT:QbZ w p 2048)(hr:Q1 w ao zs)(ho:Qh zs)(hcap:zs.length<=cap)(hl:zs.length<=1048576):
  Calls prog 65 #[.pointer (some ⟨p,0,none⟩),.int .u32 c,.slice ao zs.length cap] w fun e w'=>e=.returned (.int .u32 (Crc.cr (c^^^4294967295) zs^^^4294967295:Nat))/\∃q,w'=w.drewN q:=by
 refine kI ?_;intro M x;go_enter func65,ntmps65;go_wp2_with fail;go_loopw [1,2] (fun s v wr=>∃ao' cap' xs f,zs=xs++f/\v=.slice ao' f.length cap'/\f.length<=cap'/\Q1 w ao' f/\s=.int .u32 (Crc.cr (c^^^4294967295) xs:Nat)/\∃q,wr=w.drewN q) (fun _ v _=>Qc8 v)
 case atStart=>exact ⟨ao,cap,[],zs,rfl,rfl,hcap,hr,congrArg (Value.int .u32) M,0,rfl⟩
 case round=>
  clear hr hcap M;obtain ⟨ao,cap,xs,f,rfl,rfl,hcap,a,rfl,q,hq⟩:=hrel;have hr:Q1 wr ao f:=by rw [hq];exact a
  have h:QbZ wr p 2048:=by rw [hq];exact ⟨hT.made,hT.all,hT.free⟩
  have HQ:dm (wr=w.drewN q):=hq;have aj:dm (Q1 w ao f):=a;clear hq a;have l:=Crc.cr_lt (c^^^4294967295) xs x (fun z r=>ho z (List.mem_append_left _ r));obtain ⟨s,E⟩:=dt (Crc.cr (c^^^4294967295) xs);rw [E] at l ⊢;have HS:dm _:=E;clear E;have g:Qh f:=fun z r=>ho z (List.mem_append_right _ r)
  have ak:f.length<=1048576:=qi;by_cases h8:8<=f.length
  ·have ai:(8:Int)<=f.length:=dk
   obtain ⟨b,U,rfl,I⟩:=hr.at (k:=0) dk;have k0:=I 0 dk;have k1:=I 1 dk;have k2:=I 2 dk;have k3:=I 3 dk;have k4:=I 4 dk;have k5:=I 5 dk;have k6:=I 6 dk;have T:=I 7 dk;have g0:(0:Int)<f.length:=dk;have g1:(1:Int)<f.length:=dk;have g2:(2:Int)<f.length:=dk;have g3:(3:Int)<f.length:=dk;have g4:(4:Int)<f.length:=dk;have g5:(5:Int)<f.length:=dk;have g6:(6:Int)<f.length:=dk;have g7:(7:Int)<f.length:=dk;obtain ⟨Y0,aq⟩:=Int.eq_ofNat_of_zero_le (g.getD 0).1;have y0:=(g.getD 0).2;rw [aq] at k0 y0;obtain ⟨Y1,a0⟩:=Int.eq_ofNat_of_zero_le (g.getD 1).1;have F:=(g.getD 1).2;rw [a0] at k1 F;obtain ⟨y,N⟩:=Int.eq_ofNat_of_zero_le (g.getD 2).1;have y2:=(g.getD 2).2;rw [N] at k2 y2;obtain ⟨P,aA⟩:=Int.eq_ofNat_of_zero_le (g.getD 3).1;have y3:=(g.getD 3).2;rw [aA] at k3 y3;obtain ⟨K,az⟩:=Int.eq_ofNat_of_zero_le (g.getD 4).1;have y4:=(g.getD 4).2;rw [az] at k4 y4;obtain ⟨Y5,aw⟩:=Int.eq_ofNat_of_zero_le (g.getD 5).1;have y5:=(g.getD 5).2;rw [aw] at k5 y5;obtain ⟨Y6,au⟩:=Int.eq_ofNat_of_zero_le (g.getD 6).1;have y6:=(g.getD 6).2;rw [au] at k6 y6;obtain ⟨Y7,a9⟩:=Int.eq_ofNat_of_zero_le (g.getD 7).1;have y7:=(g.getD 7).2;rw [a9] at T y7;obtain ⟨n,L⟩:=dt f.length;have ah:dm _:=L;rw [L] at g0 g1 g2 g3 g4 g5 g6 g7 hcap ak ai ⊢;have O:0<n:=dk;rw [Nat.add_zero] at k0;clear I h8 L;go_wp2_with fail;go_quiet (fail);obtain ⟨C,hC⟩:=dt (s^^^(Y0|||Y1*256|||y*65536|||P*16777216));have o1:Y0|||Y1*256<4294967296:=Nat.or_lt_two_pow (n:=32) dk dk
   have o2:Y0|||Y1*256|||y*65536<4294967296:=Nat.or_lt_two_pow (n:=32) o1 dk
   have o3:Y0|||Y1*256|||y*65536|||P*16777216<4294967296:=Nat.or_lt_two_pow (n:=32) o2 dk
   have ag:C<4294967296:=by rw [<-hC];exact Nat.xor_lt_two_pow (n:=32) l o3
   have a3:bits .xor .u32 (s:Int) (bits .or .u32 (bits .or .u32 (bits .or .u32 (Y0:Int) ((Y1:Int)*256)) ((y:Int)*65536)) ((P:Int)*16777216))=(C:Int):=by
    rw [show (Y1:Int)*256=((Y1*256:Nat):Int) by omega,show (y:Int)*65536=((y*65536:Nat):Int) by omega,show (P:Int)*16777216=((P*16777216:Nat):Int) by omega];rw [u32_or_nat _ _ dk dk,u32_or_nat _ _ o1 dk,u32_or_nat _ _ o2 dk,u32_xor_nat _ _ l o3,hC]
   rw [a3];have HC:dm _:=hC;obtain ⟨i7,b8⟩:=dt (C%256);obtain ⟨i6,bI⟩:=dt (C/256%256);obtain ⟨i5,bM⟩:=dt (C/65536%256);obtain ⟨i4,aL⟩:=dt (C/16777216);have a7:bits .and .u32 (C:Int) 255=(i7:Int):=by
    rw [show (255:Int)=((255:Nat):Int) from rfl,u32_and_nat _ _ ag dn,show (255:Nat)=2^8-1 from rfl,Nat.and_two_pow_sub_one_eq_mod,<-b8]
   have a6:bits .and .u32 ((C:Int)/256) 255=(i6:Int):=by
    rw [show (C:Int)/256=((C/256:Nat):Int) by omega,show (255:Int)=((255:Nat):Int) from rfl,u32_and_nat _ _ dk dn,show (255:Nat)=2^8-1 from rfl,Nat.and_two_pow_sub_one_eq_mod,<-bI]
   have a5:bits .and .u32 ((C:Int)/65536) 255=(i5:Int):=by
    rw [show (C:Int)/65536=((C/65536:Nat):Int) by omega,show (255:Int)=((255:Nat):Int) from rfl,u32_and_nat _ _ dk dn,show (255:Nat)=2^8-1 from rfl,Nat.and_two_pow_sub_one_eq_mod,<-bM]
   have a4:(C:Int)/16777216=(i4:Int):=dk;have b7:(i7:Int)<256:=dk;have b6:(i6:Int)<256:=dk;have b5:(i5:Int)<256:=dk;have H:(i4:Int)<256:=dk;have Z:(K:Int)<256:=dk;have b2:(Y5:Int)<256:=dk;have b1:(Y6:Int)<256:=dk;have b0:(Y7:Int)<256:=dk;obtain ⟨V7,aa⟩:=dt (Crc.tab 7 i7);have m7:=h.made (1792+i7) dk;rw [show (1792+i7)/256=7 by omega,show (1792+i7)%256=i7 by omega,aa] at m7;have aE:dm _:=aa;have l7:V7<4294967296:=by rw [<-aa];exact Crc.tab_lt _ _ dk
   obtain ⟨V6,ad⟩:=dt (Crc.tab 6 i6);have m6:=h.made (1536+i6) dk;rw [show (1536+i6)/256=6 by omega,show (1536+i6)%256=i6 by omega,ad] at m6;have aD:dm _:=ad;have l6:V6<4294967296:=by rw [<-ad];exact Crc.tab_lt _ _ dk
   obtain ⟨V5,a8⟩:=dt (Crc.tab 5 i5);have m5:=h.made (1280+i5) dk;rw [show (1280+i5)/256=5 by omega,show (1280+i5)%256=i5 by omega,a8] at m5;have aG:dm _:=a8;have l5:V5<4294967296:=by rw [<-a8];exact Crc.tab_lt _ _ dk
   obtain ⟨V4,W⟩:=dt (Crc.tab 4 i4);have m4:=h.made (1024+i4) dk;rw [show (1024+i4)/256=4 by omega,show (1024+i4)%256=i4 by omega,W] at m4;have aF:dm _:=W;have l4:V4<4294967296:=by rw [<-W];exact Crc.tab_lt _ _ dk
   obtain ⟨V3,R⟩:=dt (Crc.tab 3 K);have m3:=h.made (768+K) dk;rw [show (768+K)/256=3 by omega,show (768+K)%256=K by omega,R] at m3;have aC:dm _:=R;have l3:V3<4294967296:=by rw [<-R];exact Crc.tab_lt _ _ dk
   obtain ⟨V2,ae⟩:=dt (Crc.tab 2 Y5);have m2:=h.made (512+Y5) dk;rw [show (512+Y5)/256=2 by omega,show (512+Y5)%256=Y5 by omega,ae] at m2;have ax:dm _:=ae;have S:V2<4294967296:=by rw [<-ae];exact Crc.tab_lt _ _ dk
   obtain ⟨V1,av⟩:=dt (Crc.tab 1 Y6);have m1:=h.made (256+Y6) dk;rw [show (256+Y6)/256=1 by omega,show (256+Y6)%256=Y6 by omega,av] at m1;have aH:dm _:=av;have X:V1<4294967296:=by rw [<-av];exact Crc.tab_lt _ _ dk
   obtain ⟨V0,Q⟩:=dt (Crc.tab 0 Y7);have m0:=h.made (0+Y7) dk;rw [show (0+Y7)/256=0 by omega,show (0+Y7)%256=Y7 by omega,Q] at m0;have B:dm _:=Q;have l0:V0<4294967296:=by rw [<-Q];exact Crc.tab_lt _ _ dk
   rw [Nat.zero_add] at m0;clear h hC a3 o1 o2 o3 Q av ae R W a8 ad aa;go_wp2_with fail;go_quiet (fail);have u:V7^^^V6<4294967296:=Nat.xor_lt_two_pow (n:=32) l7 l6;have x2:V7^^^V6^^^V5<4294967296:=Nat.xor_lt_two_pow (n:=32) u l5;have x3:V7^^^V6^^^V5^^^V4<4294967296:=Nat.xor_lt_two_pow (n:=32) x2 l4;have x4:V7^^^V6^^^V5^^^V4^^^V3<4294967296:=Nat.xor_lt_two_pow (n:=32) x3 l3;have x5:V7^^^V6^^^V5^^^V4^^^V3^^^V2<4294967296:=Nat.xor_lt_two_pow (n:=32) x4 S;have x6:V7^^^V6^^^V5^^^V4^^^V3^^^V2^^^V1<4294967296:=Nat.xor_lt_two_pow (n:=32) x5 X;rw [u32_xor_nat _ _ l7 l6,u32_xor_nat _ _ u l5,u32_xor_nat _ _ x2 l4,u32_xor_nat _ _ x3 l3,u32_xor_nat _ _ x4 S,u32_xor_nat _ _ x5 X,u32_xor_nat _ _ x6 l0];have ar:Crc.cr (c^^^4294967295) (xs++f.take 8)=V7^^^V6^^^V5^^^V4^^^V3^^^V2^^^V1^^^V0:=by
    rw [Crc.cr_append,HS.u,Qrt f (by have:=ah.u;omega),aq,a0,N,aA,az,aw,au,a9];rw [Crc.eight_tab s Y0 Y1 y P K Y5 Y6 Y7 dk dk dk dk,HC.u,show (64:Nat)=8*(4+4) from rfl,Crc.halves_four 4 C ag,b8,bI,bM,aL];rw [aE.u,aD.u,aG.u,aF.u,aC.u,ax.u,aH.u,B.u]
   have al:=QhY (cap:=cap) (k:=8) aj.u (by have:=ah.u;omega);have t:(f.drop 8).length=n-8:=by rw [List.length_drop,ah.u]
   clear a7 a6 a5 a4 m7 m6 m5 m4 m3 m2 m1 m0 k0 k1 k2 k3 k4 k5 k6 T;go_wp2_with fail;go_roundw
   case rel=>exact ⟨_,cap-8,xs++f.take 8,f.drop 8,dr,by rw [t],by rw [t];omega,al,by rw [ar],⟨_,by rw [HQ.u,Qi2]⟩⟩
   case measure=>simp only [Qc8];omega
  ·have ai:¬(8:Int)<=f.length:=dk
   clear h8;go_wp2_with fail;clear ai;go_loop [1,111] (fun d i=>∃k:Nat,k<=f.length/\i=.int .i64 k/\d=.int .u32 (Crc.cr s (f.take k):Nat)) (fun _ i=>f.length-(intOf i).toNat)
   case atStart=>exact ⟨0,Nat.zero_le _,rfl,rfl⟩
   case round=>
    obtain ⟨k,hk,rfl,rfl⟩:=hrel;have hd:=Crc.cr_lt s (f.take k) l (VL g k);by_cases ab:k<f.length
    ·have HN:dm _:=QhM s f k ab
     obtain ⟨b,U,rfl,I⟩:=hr.at ab;have a2:=I k ab;obtain ⟨Y,hY⟩:=Int.eq_ofNat_of_zero_le (g.getD k).1;have N:=(g.getD k).2;obtain ⟨d,G⟩:=dt (Crc.cr s (f.take k));have m:=Crc.one_tab d (f.getD k 0) (g.getD k);rw [G] at hd ⊢;rw [hY] at a2 N m;rw [Int.toNat_natCast] at m;have J:d%256^^^Y<256:=Nat.xor_lt_two_pow (n:=8) dk dk;have hm:=h.made (d%256^^^Y) dk;rw [Nat.div_eq_of_lt J,Nat.mod_eq_of_lt J] at hm;have an:bits .and .u32 (d:Int) 255=((d%256:Nat):Int):=by
      rw [show (255:Int)=((255:Nat):Int) from rfl,u32_and_nat _ _ hd dn,show (255:Nat)=2^8-1 from rfl,Nat.and_two_pow_sub_one_eq_mod]
     have a1:bits .xor .u32 ((d%256:Nat):Int) (Y:Int)=((d%256^^^Y:Nat):Int):=u32_xor_nat _ _ dk dk;have j:=Crc.tab_lt 0 (d%256^^^Y) dk;have o:bits .xor .u32 ((d/256:Nat):Int) ((Crc.tab 0 (d%256^^^Y):Nat):Int)=((Crc.one d (Y:Int):Nat):Int):=by
      rw [u32_xor_nat _ _ dk j,m]
     obtain ⟨V,hV⟩:=dt (Crc.tab 0 (d%256^^^Y));rw [hV] at hm o;obtain ⟨ix,af⟩:=dt (d%256^^^Y);rw [af] at hm a1 J;obtain ⟨A,hA⟩:=dt (d%256);obtain ⟨D,hD⟩:=dt (d/256);rw [hA] at an a1;rw [hD] at o;have aB:(d:Int)/256=(D:Int):=dk;have aI:(ix:Int)<256:=dk;rw [G,hY] at HN;have ay:dm _:=o;clear I m hV af hA hD J G hY j o;go_wp2_with fail;go_round
     case rel=>exact ⟨k+1,dk,dw,by rw [HN.u];exact congrArg (Value.int .u32) ay.u⟩
     case measure=>simp [intOf];omega
    ·have e:f.take k=f:=List.take_of_length_le dk
     rw [e] at hd ⊢;have r:=QcM _ hd;have ar:Crc.cr (c^^^4294967295) (xs++f)=Crc.cr s f:=by rw [Crc.cr_append,HS.u]
     clear hr;go_wp2_with fail;go_ret;exact ⟨Qd7 r,q,HQ.u⟩
theorem Ql0(c:Nat)(c1:c<4294967296)(ao:Option Addr)(cap:Nat)(zs:List Int)(n:Nat)(hn:zs.length=n)(w:World)(hr:Q1 w ao zs)(ho:Qh zs)(hcap:zs.length<=cap)(hl:zs.length<=65536):
  Calls prog 30 #[.int .u32 c,.slice ao n cap] w fun e w'=>e=.returned (.int .u32 (Crc.cr (c^^^4294967295) zs^^^4294967295:Nat))/\Below w.heap.size w w':=by
 subst hn;by_cases h:(zs.length:Int)<512
 ·go_enter func30,ntmps30
  go_wp2_with fail;refine (Qet c c1 ao cap zs _ hr ho dk).mono ?_;rintro e w' ⟨rfl,rfl⟩;exact lp
 ·have O:(zs.length:Int)<=65536:=dk
  go_enter func30,ntmps30;go_wp2_with fail;refine (QjS w).mono ?_;rintro e w1 ⟨rfl,hT,hb⟩;have aq:=hr.below hb;go_wp2_with fail;refine (Qn6 w.heap.size c c1 ao cap zs w1 hT aq ho hcap dk).mono ?_;rintro e w2 ⟨rfl,q,rfl⟩;go_wp2_with fail;go_ret;exact ⟨rfl,hb.trans ((Qo _ _ _).mono hb.size)⟩
end Go.Proofs.YtgginbpmebgkcaaGreatDoor
