import Derived.Lib.MinMax
import Derived.Test.YtgginbpmebgkcaaGreatDoorMAC
import Derived.Test.YtgginbpmebgkcaaGreatDoorMAD
namespace Go.Proofs.YtgginbpmebgkcaaGreatDoor
open Go.RowKit Go.Proofs.Tryz
attribute [local go_sem ↓] Go.wp_at_zero Go.wp_at_succ
set_option maxRecDepth 100000
set_option maxHeartbeats 25600000
theorem QpK{k:IntKind}{a b:Int}(h:a=b):Ending.returned (.int k a)=.returned (.int k b):=by rw [h]
theorem QiG(p:Nat)(ao:Option Addr)(cap:Nat)(zs:List Int)(a u:Int)(n:Nat)(w:World)(hs:Src w p (.slice ao zs.length cap) a u)(hr:Q1 w ao zs)(hz:Qh zs)(hfit:zs.length<=cap)(hl:zs.length<=1000000)(a0:0<=a)(a7:a<=7)(n1:n<=32)(hn:a+n<=8*(zs.length:Int)):
  Calls prog 185 #[.agg #[.pointer (some ⟨p,0,none⟩)],.int .i64 n] w fun e w'=>e=.returned (.int .u64 (field (bnum zs) a.toNat n:Nat))/\Below w.heap.size w w':=by
 refine fH ?_;intro N;obtain ⟨C,c1,c2,f0,f1,f2⟩:=hs;obtain ⟨m,hm⟩:∃m:Nat,m=min zs.length 5:=⟨_,rfl⟩;have K:min (zs.length:Int) 5=(m:Int):=dk;have S:max (m:Int) 0=(m:Int):=dk;have g:m<=5:=dk;have h:m<=zs.length:=dk;have HM:dm (m=min zs.length 5):=hm;clear hm;go_enter func185,ntmps185;go_wp2;go_quiet (fail);go_wp2_with fail;go_loop [5,22] (fun x i=>∃k:Nat,k<=m/\i=.int .i64 k/\x=.int .u64 (bnum (zs.take k):Nat)) (fun _ i=>m-(intOf i).toNat)
 case atStart=>exact ⟨0,Nat.zero_le _,rfl,rfl⟩
 case round=>
  obtain ⟨k,hk,rfl,rfl⟩:=hrel;by_cases ab:k<m
  ·obtain ⟨b,U,rfl,I⟩:=hr.at (k:=k) dk
   have a2:=I k dk;have aW:b<w.heap.size:=World.block_lt_of_cell? w _ a2;have c:=hz.getD k;have d:=Qc9 zs k dk;have f:dm (bnum (zs.take (k+1))=bnum (zs.take k)+(zs.getD k 0).toNat*256^k):=d;clear d I hr;have hy:bnum (zs.take k)<256^k:=by
    have:=Qb1 (zs.take k) (hz.take k);rw [List.length_take,Nat.min_eq_left dk] at this;exact this
   generalize zs.getD k 0=x at*;generalize bnum (zs.take k)=y at*;go_wp2_with fail;go_round
   case rel=>exact ⟨k+1,dk,dw,by rw [f.u,Qph y k x hy dk c.1 c.2]⟩
   case measure=>simp [intOf];omega
  ·have e:k=m:=dk
   subst e;have hy:bnum (zs.take k)<18446744073709551616:=by
    have J:=Qb1 (zs.take k) (hz.take k);have h2:(256:Nat)^(zs.take k).length<=256^5:=Nat.pow_le_pow_right dn dS;omega
   have HF:dm (field (bnum (zs.take k)) a.toNat n=field (bnum zs) a.toNat n):=Qf9 zs k a.toNat n (by have:=HM.u;omega);clear hr;go_wp2_with fail;go_quiet (fail);go_wp2_with fail;go_ret;exact ⟨by rw [<-HF.u];exact QpK (Qn2 _ _ n hy n1),((((Below.refl _ _).alloc (Nat.le_refl _) _).trans (Qo _ _ _)).trans (Qo _ _ _))⟩
theorem Qpc(p:Nat)(ao:Option Addr)(len cap:Nat)(a u n:Int)(w:World)(hs:Src w p (.slice ao len cap) a u)(hv:vld len a u=true)(hno:n<0\/32<n\/(0<=n/\n<=32/\Qc5 len a u n=false)):
  Calls prog 153 #[.agg #[.pointer (some ⟨p,0,none⟩)],.int .i64 n] w fun e w'=>e=.returned (.tuple #[.int .u64 0,.bool false])/\Below w.heap.size w w':=by
 obtain ⟨m,a7,al,hl,u0,Y,d⟩:=Qdt hv;clear al d hv;rcases hno with h|h|⟨H,J,h2⟩
 ·clear hs
  go_enter func153,ntmps153;exact jl
 ·have y:¬n<0:=dk
  clear hs;go_enter func153,ntmps153;exact jl
 ·have HB:dm (Qc5 len a u n=false):=h2
  clear h2;have j:=hs.grown (World.grownBy_alloc w (Obj.cells #[Value.pointer (some ⟨p,0,none⟩)] 63) none) dr;go_enter func153,ntmps153;go_wp2_with fail;refine (QcL p ao len cap a u n _ j hl m a7 u0 Y H dk).mono ?_;exact mI
theorem QnO(p:Nat)(ao:Option Addr)(cap:Nat)(zs:List Int)(a u:Int)(n:Nat)(w:World)(hs:Src w p (.slice ao zs.length cap) a u)(hr:Q1 w ao zs)(hz:Qh zs)(hfit:zs.length<=cap)(hv:vld zs.length a u=true)(n1:n<=32)(hh:Qc5 zs.length a u n=true):
  Calls prog 153 #[.agg #[.pointer (some ⟨p,0,none⟩)],.int .i64 n] w fun e w'=>e=.returned (.tuple #[.int .u64 (field (bnum zs) a.toNat n:Nat),.bool true])/\
   Src w' p (.slice (Qa2 ao cap ((a+n)/8).toNat) (zs.length-((a+n)/8).toNat) (cap-((a+n)/8).toNat)) ((a+n)%8) (u+n)/\w.grownBy w' (some p):=by
 obtain ⟨m,a7,al,hl,u0,Y,d⟩:=Qdt hv;have b:=of_decide_eq_true hh;have HB:dm (Qc5 zs.length a u n=true):=hh;clear al d hv hh;have T:=World.grownBy_alloc w (Obj.cells #[Value.pointer (some ⟨p,0,none⟩)] 63) none;have j:=hs.grown T dr;have Q:=hr.grown T dr;have x:(w.alloc (.cells #[.pointer (some ⟨p,0,none⟩)] 63)).cell? ⟨w.heap.size,0,none⟩=some (.pointer (some ⟨p,0,none⟩)):=dF;go_enter func153,ntmps153;go_wp2_with fail;refine (QcL p ao zs.length cap a u n _ j hl m a7 u0 Y dk dk).mono ?_;rintro e w' ⟨rfl,q,rfl⟩;rw [HB.u];go_wp2_with fail;refine (QiG p ao cap zs a u n _ (j.drewN q) (Q.drewN q) hz hfit hl m a7 n1 dk).mono ?_;rintro e w3 ⟨rfl,r⟩;refine mJ ?_;intro Z c aw;clear Q j x r hr T;go_wp2_with fail;refine (Qcv p ao zs.length cap a u n _ Z hl m a7 u0 Y dk dk).mono ?_;rintro e w4 ⟨rfl,J,h2,h3⟩;go_wp2_with fail;go_ret2;exact ⟨rfl,J,Qj aw h2⟩
end Go.Proofs.YtgginbpmebgkcaaGreatDoor
