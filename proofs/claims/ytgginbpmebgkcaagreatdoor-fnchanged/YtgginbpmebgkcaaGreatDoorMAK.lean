import Derived.Test.YtgginbpmebgkcaaGreatDoorMAC
import Derived.Test.YtgginbpmebgkcaaGreatDoorMAI
import Derived.Test.YtgginbpmebgkcaaGreatDoorMAJ
namespace Go.Proofs.YtgginbpmebgkcaaGreatDoor
open Go.RowKit Go.Proofs.Tryz
attribute [local go_sem ↓] Go.wp_at_zero Go.wp_at_succ
set_option linter.unusedVariables false
set_option maxRecDepth 100000
set_option maxHeartbeats 25600000
theorem Qd2(a b:Nat)(ha:a<2^64)(hb:b<2^64):bits .and .u64 (a:Int) (b:Int)=((a&&&b:Nat):Int):=by
 show IntKind.u64.wrap ((BitVec.ofInt 64 a&&&BitVec.ofInt 64 b).toNat:Nat)=_;rw [BitVec.toNat_and,BitVec.ofInt_natCast,BitVec.ofInt_natCast,BitVec.toNat_ofNat,BitVec.toNat_ofNat,Nat.mod_eq_of_lt ha,Nat.mod_eq_of_lt hb,IntKind.wrap_u64];have:a&&&b<2^64:=Nat.lt_of_le_of_lt Nat.and_le_left ha;omega
theorem QmM(a b:Nat)(ha:a<2^64)(hb:b<2^64):bits .or .u64 (a:Int) (b:Int)=((a|||b:Nat):Int):=by
 show IntKind.u64.wrap ((BitVec.ofInt 64 a|||BitVec.ofInt 64 b).toNat:Nat)=_;rw [BitVec.toNat_or,BitVec.ofInt_natCast,BitVec.ofInt_natCast,BitVec.toNat_ofNat,BitVec.toNat_ofNat,Nat.mod_eq_of_lt ha,Nat.mod_eq_of_lt hb,IntKind.wrap_u64];have:a|||b<2^64:=Nat.or_lt_two_pow ha hb
 omega
theorem Qi6(s m x:Nat)(M K:Int)(hM:M=(m:Int))(hK:K=((2^s:Nat):Int))(hx:x<2^64)(hm:m<2^64)(hms:m*2^s<2^64):
  ∃A B C y:Nat,bits .and .u64 ((x:Int)/K) M=(A:Int)/\bits .and .u64 (x:Int) M=(B:Int)/\IntKind.u64.wrap ((B:Int)*K)=(C:Int)/\bits .or .u64 (A:Int) (C:Int)=(y:Int)/\y<2^64/\y=swp s m x:=by
 subst hM hK;have J:(x:Int)/((2^s:Nat):Int)=((x >>> s:Nat):Int):=by rw [Nat.shiftRight_eq_div_pow];exact (Int.natCast_ediv x (2^s)).symm
 have hA:x >>> s&&&m<2^64:=Nat.lt_of_le_of_lt Nat.and_le_right hm;have hC:(x&&&m)<<< s<2^64:=by
  rw [Nat.shiftLeft_eq];exact Nat.lt_of_le_of_lt (Nat.mul_le_mul_right _ Nat.and_le_right) hms
 refine ⟨x >>> s&&&m,x&&&m,(x&&&m)<<< s,swp s m x,?_,Qd2 _ _ hx hm,?_,QmM _ _ hA hC,Nat.or_lt_two_pow hA hC,rfl⟩
 ·rw [J]
  exact Qd2 _ _ (Nat.lt_of_le_of_lt (Nat.shiftRight_le _ _) hx) hm
 ·rw [Nat.shiftLeft_eq] at hC ⊢
  rw [<-Int.natCast_mul,IntKind.wrap_u64];omega
theorem Qrv(x:Nat)(hx:x<2^64):∃A C y:Nat,(x:Int)/4294967296=(A:Int)/\IntKind.u64.wrap ((x:Int)*4294967296)=(C:Int)/\bits .or .u64 (A:Int) (C:Int)=(y:Int)/\y=swp 32 m32 x:=by
 have e1:x >>> 32&&&m32=x/4294967296:=by
  rw [show m32=2^32-1 from rfl,Nat.and_two_pow_sub_one_eq_mod,Nat.shiftRight_eq_div_pow];omega
 have e2:(x&&&m32)<<< 32=x%4294967296*4294967296:=by
  rw [show m32=2^32-1 from rfl,Nat.and_two_pow_sub_one_eq_mod,Nat.shiftLeft_eq]
 refine ⟨x/4294967296,x%4294967296*4294967296,swp 32 m32 x,dk,?_,?_,rfl⟩
 ·rw [IntKind.wrap_u64];omega
 ·unfold swp
  rw [e1,e2];exact QmM _ _ dk dk
theorem Qh4(x:Nat)(hx:x<2^64)(w:World):Calls prog 172 #[.int .u64 x] w fun e w'=>e=.returned (.int .u64 (swp 32 m32 (swp 16 m16 (swp 8 m8 x)):Nat))/\w'=w:=by
 obtain ⟨A1,B1,C1,F,J,h2,h3,h4,X,e1⟩:=Qi6 8 m8 x 71777214294589695 256 rfl rfl hx dn dn;obtain ⟨A2,B2,C2,y2,k1,k2,k3,k4,S,e2⟩:=Qi6 16 m16 F 281470681808895 65536 rfl rfl X dn dn;obtain ⟨A3,C3,y3,g1,g3,g4,R⟩:=Qrv y2 S;have HE:dm (y3=swp 32 m32 (swp 16 m16 (swp 8 m8 x))):=by show _=_;rw [R,e2,e1]
 clear e1 e2 R hx X S;go_enter func172,ntmps172;exact jq
theorem Qjj(x:Nat)(hx:x<2^64)(w:World):Calls prog 142 #[.int .u64 x] w fun e w'=>e=.returned (.int .u64 (rev64 x:Nat))/\w'=w:=by
 obtain ⟨A1,B1,C1,F,J,h2,h3,h4,X,e1⟩:=Qi6 1 m1 x 6148914691236517205 2 rfl rfl hx dn dn;obtain ⟨A2,B2,C2,y2,k1,k2,k3,k4,S,e2⟩:=Qi6 2 m2 F 3689348814741910323 4 rfl rfl X dn dn;obtain ⟨A3,B3,C3,y3,g1,g2,g3,g4,l3,R⟩:=Qi6 4 m4 y2 1085102592571150095 16 rfl rfl S dn dn;have HR:=Qg<|Qh4 y3 l3 w
 have HE:dm (swp 32 m32 (swp 16 m16 (swp 8 m8 y3))=rev64 x):=by show _=_;rw [R,e2,e1];rfl
 rw [HE.u] at HR;clear e1 e2 R hx X S l3;go_enter func142,ntmps142;go_wp2_with fail;refine Calls.mono HR.u ?_;rintro e w1 ⟨rfl,rfl⟩;exact ey
theorem Qgw(x l:Nat)(hx:x<2^64)(h0:1<=l)(h1:l<=15)(w:World):Calls prog 95 #[.int .u64 x,.int .i64 l] w fun e w'=>e=.returned (.int .u64 (tr x l:Nat))/\w'=w:=by
 have HR:=Qg<|Qjj x hx w
 have HT:=Qg<|QnH x l dk
 obtain ⟨R,P⟩:=dt (rev64 x);rw [P] at HR HT;obtain ⟨k,hk⟩:∃k:Nat,64-(l:Int)=(k:Int):=⟨64-l,dk⟩;have d:dm (k=64-l):=by show _=_;omega
 clear P;go_enter func95,ntmps95;go_wp2_with fail;refine Calls.mono HR.u ?_;rintro e w1 ⟨rfl,rfl⟩;have hE:(R:Int)/2^k=((tr x l:Nat):Int):=by
  rw [<-HT.u,<-d.u,Nat.shiftRight_eq_div_pow,Int.natCast_ediv,Int.natCast_pow];rfl
 have HE:=Qg hE;clear hE;exact jq
theorem Qku(x n:Nat)(hx:x<1099511627776)(hn:n<=15)(w:World):Calls prog 103 #[.int .i64 x,.int .i64 n] w fun e w'=>e=.returned (.int .u64 (tr x n:Nat))/\w'=w:=by
 go_enter func103,ntmps103;go_wp2_with fail;go_loop [0,5,6] (fun y o i=>∃(k X O:Nat),k<=n/\i=.int .i64 k/\y=.int .i64 X/\o=.int .u64 O/\X<1099511627776/\O<32768/\dm (Qgf X (n-k) O=tr x n)/\dm (O<2^k)) (fun _ _ i=>n-(intOf i).toNat)
 case atStart=>exact ⟨0,x,0,dk,rfl,rfl,rfl,hx,dk,(rfl:Qgf x (n-0) 0=tr x n),(by decide:0<2^0)⟩
 case round=>
  obtain ⟨k,X,O,hk,rfl,rfl,rfl,hX,hO,HT,HP⟩:=hrel;by_cases ab:k<n
  ·have al:dm (Qgf (X/2) (n-(k+1)) (2*O+X%2)=tr x n):=by
    show _=_;rw [<-HT.u,show n-k=(n-(k+1))+1 by omega];rfl
   have a:dm (2*O+X%2<2^(k+1)):=by
    show _<_;have:=HP.u;rw [Nat.pow_succ];omega
   have ah:2*O+X%2<32768:=Nat.lt_of_lt_of_le a.u (Nat.pow_le_pow_right dn (by omega:k+1<=15));go_wp2_with fail;go_round
   case rel=>exact ⟨k+1,X/2,2*O+X%2,dk,dw,dw,dw,dk,ah,al,a⟩
   case measure=>simp [intOf];omega
  ·have e:k=n:=dk
   have hE:O=tr x n:=by rw [<-HT.u,e,Nat.sub_self];rfl
   have HE:=Qg hE;clear hE e;exact jq
section
variable{w:World}{p:Nat}{f g:Nat->Nat}
def cells16u(f:Nat->Nat):List Value:=(List.range 16).map (fun i=>Value.int .u64 (f i:Nat))
theorem Qcc(f:Nat->Nat):(cells16u f).length=16:=by simp [cells16u]
theorem Qen(f:Nat->Nat)(i:Nat)(h:i<16):(cells16u f)[i]?=some (Value.int .u64 (f i:Nat)):=by simp [cells16u,h]
structure Qau(w:World)(p:Nat)(f:Nat->Nat):Prop where
 at_:∀i,i<16->w.cell? ⟨p,i,none⟩=some (.int .u64 (f i:Nat))
 free:∀i,w.frozen? ⟨p,i,none⟩=false
theorem Qau.lt(h:Qau w p f):p<w.heap.size:=World.block_lt_of_cell? w _ (h.at_ 0 dk)
theorem Qau.grown{w':World}{row:Option Nat}(h:Qau w p f)(hg:w.grownBy w' row)(hne:some p≠row):Qau w' p f:=mU
theorem Qau.range(h:Qau w p f):w.rangeAt p 0 (cells16u f):=by
 intro j v V;have hj:j<16:=by
  have J:=(List.getElem?_eq_some_iff.1 V).1;rwa [Qcc] at J
 rw [Qen f j hj] at V;exact mV
theorem Qau.there(h:Qau w p f):w.there p 0 16:=mW
theorem Qau.congr(h:Qau w p f)(e:∀i,f i=g i):Qau w p g:=⟨fun i hi=>by rw [<-e];exact h.at_ i hi,h.free⟩
theorem Tryz.size_cntu:(prog.info? 159).map (·.size)=some 16:=by kernel_rfl
theorem QdK(f:Nat->Nat):∀v∈cells16u f,v.oneCell'=true:=by
 intro v V;simp only [cells16u,List.mem_map] at V;obtain ⟨i,_,rfl⟩:=V;rfl
theorem Qau.new(w:World)(t:TypeId):Qau (w.alloc (.cells #[.int .u64 0,.int .u64 0,.int .u64 0,.int .u64 0,.int .u64 0,.int .u64 0,.int .u64 0,.int .u64 0,.int .u64 0,.int .u64 0,.int .u64 0,.int .u64 0,.int .u64 0,.int .u64 0,.int .u64 0,.int .u64 0] t)) w.heap.size (fun _=>0):=m9
theorem Qau.alloc(h:Qau w p f)(o:Obj):Qau (w.alloc o) p f:=h.grown (World.grownBy_alloc w o none) dr
theorem Qau.set(h:Qau w p f){l:Nat}(hl:l<16)(v:Nat):Qau (w.setCell ⟨p,l,none⟩ (.int .u64 v)) p (fun i=>if i=l then v else f i):=by
 refine ⟨fun i hi=>?_,fun i=>mX⟩;by_cases e:i=l
 ·subst e
  rw [World.cell?_setCell_same _ _ _ (h.at_ i hi)];simp
 ·exact mY
theorem Qau.congr16(h:Qau w p f)(e:∀i,i<16->f i=g i):Qau w p g:=⟨fun i hi=>by rw [<-e i hi];exact h.at_ i hi,h.free⟩
def fst(f:Nat->Nat):Nat->Nat
 | 0=>0
 | 1=>0
 | l+2=>2*(fst f (l+1)+f (l+1))
theorem Qh1(f:Nat->Nat)(hf:∀i,f i<=320):∀l,fst f l+640<=640*2^l
 | 0=>by simp [fst]
 | 1=>by simp [fst]
 | l+2=>by
  have h1:=Qh1 f hf (l+1)
  have h2:=hf (l+1)
  have e:2^(l+2)=2*2^(l+1):=by rw [Nat.pow_succ];omega
  rw [fst,e]
  omega
def fstTo(f:Nat->Nat)(n i:Nat):Nat:=if i<n then fst f i else 0
theorem Qfv(f:Nat->Nat)(L:List Value)(w:World)(hl:L.length=16)(hL:∀i,i<16->L[i]?=some (Value.int .i64 (f i:Nat)))(hf:∀i,f i<=320):
  Calls prog 94 #[.agg L.toArray] w fun e w'=>e=.returned (.agg (cells16u (fst f)).toArray)/\Below w.heap.size w w':=by
 refine mS ?_;intro hC;have p:Qa5 (w.alloc (.cells L.toArray 156)) w.heap.size f:=⟨hC,fun i=>dF⟩;have C2:=(p.alloc (.cells #[.int .u64 0,.int .u64 0,.int .u64 0,.int .u64 0,.int .u64 0,.int .u64 0,.int .u64 0,.int .u64 0,.int .u64 0,.int .u64 0,.int .u64 0,.int .u64 0,.int .u64 0,.int .u64 0,.int .u64 0,.int .u64 0] 159)).alloc (.cells #[.int .u64 0,.int .u64 0,.int .u64 0,.int .u64 0,.int .u64 0,.int .u64 0,.int .u64 0,.int .u64 0,.int .u64 0,.int .u64 0,.int .u64 0,.int .u64 0,.int .u64 0,.int .u64 0,.int .u64 0,.int .u64 0] 159);have R2:=(Qau.new (w.alloc (.cells L.toArray 156)) 159).alloc (.cells #[.int .u64 0,.int .u64 0,.int .u64 0,.int .u64 0,.int .u64 0,.int .u64 0,.int .u64 0,.int .u64 0,.int .u64 0,.int .u64 0,.int .u64 0,.int .u64 0,.int .u64 0,.int .u64 0,.int .u64 0,.int .u64 0] 159);have F2:=Qau.new ((w.alloc (.cells L.toArray 156)).alloc (.cells #[.int .u64 0,.int .u64 0,.int .u64 0,.int .u64 0,.int .u64 0,.int .u64 0,.int .u64 0,.int .u64 0,.int .u64 0,.int .u64 0,.int .u64 0,.int .u64 0,.int .u64 0,.int .u64 0,.int .u64 0,.int .u64 0] 159)) 159;have B2:Below w.heap.size w (((w.alloc (.cells L.toArray 156)).alloc (.cells #[.int .u64 0,.int .u64 0,.int .u64 0,.int .u64 0,.int .u64 0,.int .u64 0,.int .u64 0,.int .u64 0,.int .u64 0,.int .u64 0,.int .u64 0,.int .u64 0,.int .u64 0,.int .u64 0,.int .u64 0,.int .u64 0] 159)).alloc (.cells #[.int .u64 0,.int .u64 0,.int .u64 0,.int .u64 0,.int .u64 0,.int .u64 0,.int .u64 0,.int .u64 0,.int .u64 0,.int .u64 0,.int .u64 0,.int .u64 0,.int .u64 0,.int .u64 0,.int .u64 0,.int .u64 0] 159)):=(((Below.refl _ _).alloc (Nat.le_refl _) _).alloc dr _).alloc du _;simp only [World.size_alloc] at R2 F2;have aA:=Qg C2;have z:=Qg R2;have aB:=Qg F2;have d:=Qg B2;have HF:=Qg hf;clear hC p C2 R2 F2 B2 hf hL hl;go_enter func94,ntmps94;go_wp2_with fail;go_loopw [4] (fun i wr=>∃j:Nat,j<=14/\i=.int .i64 ((j+2:Nat):Int)/\Qa5 wr w.heap.size f/\Qau wr (w.heap.size+1+1) (fstTo f (j+2))/\(∃g,Qau wr (w.heap.size+1) g)/\Below w.heap.size w wr) (fun i _=>16-(intOf i).toNat)
 case atStart=>
  refine ⟨0,dk,rfl,aA.u,aB.u.congr (fun i=>?_),⟨_,z.u⟩,d.u⟩;unfold fstTo;split
  ·rename_i h
   have:i=0\/i=1:=dk;rcases this with rfl|rfl<;>rfl
  ·rfl
 case round=>
  clear aA z aB d;obtain ⟨j,hj,rfl,hC,hU,⟨g,X⟩,a⟩:=hrel;by_cases ab:j<14
  ·obtain ⟨C,R⟩:=dt (j+2)
   obtain ⟨M,hM⟩:=dt (j+1);have J:(C:Int)-1=(M:Int):=dk;have l:M<16:=dk;have k:C<16:=dk;have cu:=hU.at_ M l;have cc:=hC.at_ M l;have cl:=hU.at_ C k;have fl:=hU.free C;have s:fstTo f (j+2) M=fst f M:=if_pos dk;rw [s] at cu;have N:=HF.u M;have u:fst f M<=640*2^M:=Nat.le_trans (Nat.le_add_right _ _) (Qh1 f HF.u M);have H:2^M<=32768:=Nat.le_trans (Nat.pow_le_pow_right dn (by omega:M<=15)) dn;have I:fst f M<=20971520:=Nat.le_trans u (Nat.le_trans (Nat.mul_le_mul_left 640 H) dn);have x:fst f C=2*(fst f M+f M):=by rw [<-R,<-hM];rfl
   obtain ⟨S,hS⟩:∃S:Nat,(fst f M:Int)+(f M:Int)=(S:Int):=⟨fst f M+f M,dk⟩;obtain ⟨T,hT⟩:∃T:Nat,(S:Int)*2=(T:Int):=⟨S*2,dk⟩;have y:T=fst f C:=dk;have a9:=(hU.set k T).congr (g:=fstTo f (j+1+2)) (fun i=>by
    unfold fstTo;by_cases e:i=C
    ·rw [if_pos e,if_pos dk,e];exact y
    ·rw [if_neg e]
     by_cases h2:i<j+2
     ·rw [if_pos h2,if_pos dk]
     ·rw [if_neg h2,if_neg dk])
   have O:wr.grownBy (wr.setCell ⟨w.heap.size+1+1,C,none⟩ (.int .u64 T)) (some (w.heap.size+1+1)):=Qf _ _ _;have a7:dm (Qau (wr.setCell ⟨w.heap.size+1+1,C,none⟩ (.int .u64 T)).drew (w.heap.size+1+1) (fstTo f (j+1+2))):=⟨a9.at_,a9.free⟩;have aa:=hC.grown O du;have aA:dm (Qa5 (wr.setCell ⟨w.heap.size+1+1,C,none⟩ (.int .u64 T)).drew w.heap.size f):=⟨aa.at_,aa.free⟩;have r:=X.grown O dr;have G:dm (Qau (wr.setCell ⟨w.heap.size+1+1,C,none⟩ (.int .u64 T)).drew (w.heap.size+1) g):=⟨r.at_,r.free⟩;have d:dm (Below w.heap.size w (wr.setCell ⟨w.heap.size+1+1,C,none⟩ (.int .u64 T)).drew):=(a.grown O a.size ef).drew;have w1:IntKind.i64.wrap (M:Int)=(M:Int):=jm;have w2:IntKind.u64.wrap (f M:Int)=(f M:Int):=dN;have w3:IntKind.u64.wrap (S:Int)=(S:Int):=dN;have w4:IntKind.u64.wrap (T:Int)=(T:Int):=dN;have m1:(M:Int)<16:=dk;have m2:(C:Int)<16:=dk;have b:dm (j+2=C):=R;have t:((j+2:Nat):Int)=(C:Int):=dk;rw [t];generalize fst f M=A at*;generalize f M=Q at*;generalize fstTo f (j+2) C=Z at*;clear hU hC X a a9 aa r O R hM x y u H t s;go_wp2_with fail;go_region
   go_wp2_with fail;go_roundw
   case rel=>exact ⟨j+1,dk,by have:=b.u;simp;omega,aA.u,a7.u,⟨g,G.u⟩,d.u⟩
   case measure=>have:=b.u;simp [intOf];omega
  ·have e:j=14:=dk
   subst e;have F:=hU.congr16 (g:=fst f) (fun i hi=>if_pos dk);obtain ⟨K,hK⟩:=dt (cells16u (fst f));have o:=F.range;have n:=X.there;have m:=QdK<|fst f
   have ai:=Qcc<|fst f
   rw [hK] at o m ai;have D:(prog.info? 159).map (·.size)=some K.length:=by rw [ai];exact Tryz.size_cntu
   have c:wr.there (w.heap.size+1) 0 K.length:=by rw [ai];exact n
   have E:dm (Below w.heap.size w (wr.setCells (w.heap.size+1) 0 K)):=a.grown (Q5 (w.heap.size+1) K 0 wr) a.size ef;have HK:=Qg hK;have a1:=Qg<|all_oneCell_toArray m
   have B:=Qg<|run_loadVar_mid (P:=prog) _ (w.heap.size+1) 0 159 K _ (World.rangeAt_setCells_same wr (w.heap.size+1) 0 K c) underlying159 rfl D
   clear n hC hU F X hK m ai;go_wp2_with (first|(refine wpList_load_mid rfl _ _ rfl _ _ rfl K _ o underlying159 rfl D ?_)|(refine wpList_store_mid rfl _ _ _ rfl (w.heap.size+1) 0 K.toArray rfl rfl (by simpa using c) dQ a1.u ?_))
   exact bodyPost_ret (v:=.agg K.toArray) (by simp [results,results94,asAddr,Act.put,B.u]) rfl ⟨by rw [HK.u],E.u⟩
end
section
variable{w:World}{g n:Nat}{F:Nat->Nat×Nat}
structure VP(w:World)(g n:Nat)(F:Nat->Nat×Nat):Prop where
 lt:g<w.heap.size
 at0:∀i,i<n->w.cell? ⟨g,i*2,none⟩=some (.int .i64 ((F i).1:Nat))
 at1:∀i,i<n->w.cell? ⟨g,i*2+1,none⟩=some (.int .u64 ((F i).2:Nat))
 free:∀o,w.frozen? ⟨g,o,none⟩=false
theorem VP.grown{w':World}{row:Option Nat}(h:VP w g n F)(hg:w.grownBy w' row)(hne:some g≠row):VP w' g n F:=nh
theorem VP.congr{G:Nat->Nat×Nat}(h:VP w g n F)(e:∀i,i<n->F i=G i):VP w g n G:=
 ⟨h.lt,fun i hi=>by rw [<-e i hi];exact h.at0 i hi,fun i hi=>by rw [<-e i hi];exact h.at1 i hi,h.free⟩
theorem VP.set(h:VP w g n F){k:Nat}(hk:k<n)(a b:Nat):
  VP ((w.setCell ⟨g,k*2,none⟩ (.int .i64 a)).setCell ⟨g,k*2+1,none⟩ (.int .u64 b)) g n (fun i=>if i=k then (a,b) else F i)/\w.grownBy ((w.setCell ⟨g,k*2,none⟩ (.int .i64 a)).setCell ⟨g,k*2+1,none⟩ (.int .u64 b)) (some g):=by
 refine ⟨⟨by simpa using h.lt,?_,?_,fun o=>ni⟩,Qj (Qf w ⟨g,k*2,none⟩ _) (Qf _ ⟨g,k*2+1,none⟩ _)⟩
 ·intro i hi
  by_cases e:i=k
  ·subst e
   rw [World.cell?_setCell_other _ _ _ _ dr,World.cell?_setCell_same _ _ _ (h.at0 i hi)];simp
  ·rw [World.cell?_setCell_other _ _ _ _ dB,World.cell?_setCell_other _ _ _ _ dB,h.at0 i hi]
   simp [e]
 ·intro i hi
  by_cases e:i=k
  ·subst e
   rw [World.cell?_setCell_same _ _ _ (u:=.int .u64 ((F i).2:Nat)) (by rw [World.cell?_setCell_other _ _ _ _ dr];exact h.at1 i hi)];simp
  ·exact nj
def code(zs:List Int)(i:Nat):Nat×Nat:=if (zs.getD i 0).toNat=0 then (0,0) else ((zs.getD i 0).toNat,tr (fst (cnt zs) (zs.getD i 0).toNat+cnt (zs.take i) (zs.getD i 0).toNat) (zs.getD i 0).toNat)
def Qcb(zs:List Int)(k i:Nat):Nat×Nat:=if i<k then code zs i else (0,0)
def nx(zs:List Int)(k l:Nat):Nat:=if l=0 then 0 else fst (cnt zs) l+cnt (zs.take k) l
def okC(zs:List Int):Bool:=okB zs && decide (¬hk zs=2)
def Qge(B:Nat)(w:World)(ao:Option Addr)(n:Nat)(F:Nat->Nat×Nat):Prop:=0<n->∃g,ao=some ⟨g,0,none⟩/\B<=g/\VP w g n F
theorem Qge.nil(B:Nat)(w:World)(ao:Option Addr)(F:Nat->Nat×Nat):Qge B w ao 0 F:=fun h=>dk
def nC(zs:List Int):Nat:=if okC zs then zs.length else 0
def Qe0(B:Nat)(w:World)(e:Ending)(zs:List Int):Prop:=∃bo bc,e=.returned (.slice bo (nC zs) bc)/\Qge B w bo (nC zs) (code zs)
theorem Qe0.no(B:Nat)(w:World)(zs:List Int)(bo:Option Addr)(bc:Nat)(h:okC zs=false):Qe0 B w (.returned (.slice bo 0 bc)) zs:=by
 have M:nC zs=0:=by simp [nC,h]
 refine ⟨bo,bc,by rw [M],?_⟩;rw [M];exact Qge.nil _ _ _ _
theorem Qe0.yes(B:Nat)(w:World)(zs:List Int)(g bc:Nat)(h:okC zs=true)(hB:B<=g)(hc:VP w g zs.length (code zs)):Qe0 B w (.returned (.slice (some ⟨g,0,none⟩) zs.length bc)) zs:=by
 have M:nC zs=zs.length:=by simp [nC,h]
 refine ⟨_,bc,by rw [M],?_⟩;rw [M];exact fun _=>⟨g,rfl,hB,hc⟩
theorem Tryz.info_hc:(prog.info? 118).map (fun i=>(i.zero,i.size,i.bytes))=some (some (.agg #[.int .i64 0,.int .u64 0]),2,16):=by kernel_rfl
theorem Qpk(n j:Nat)(h:j<n*2):(madeCells (Value.agg #[.int .i64 0,.int .u64 0]).cells (n*2)).toList[j]?=some (if j%2=0 then .int .i64 0 else .int .u64 0):=by
 have h2:j%2=0\/j%2=1:=dk;simp only [madeCells,Value.cells];rcases h2 with h2|h2<;>simp [h,h2]
theorem VP.made{B cap:Nat}{xs:List Value}(h:w.ownsRow B 118 2 (.slice (some ⟨g,0,none⟩) n cap) n xs)(hx:∀j,j<n*2->xs[j]?=some (if j%2=0 then .int .i64 0 else .int .u64 0)):VP w g n (fun _=>(0,0)):=by
 refine ⟨?_,?_,?_,fun o=>h.frozenAt o⟩
 ·rcases h.2 with ⟨y,_⟩|⟨g',K,M,y,_,O,_⟩
  ·simp at y
  ·simp only [Value.slice.injEq,Option.some.injEq,Addr.mk.injEq,and_true,true_and] at y
   obtain ⟨rfl,rfl⟩:=y;exact (Array.getElem?_eq_some_iff.1 O).1
 ·intro i hi
  rw [h.cellAt (i*2) dk,hx _ dk,if_pos dk];rfl
 ·intro i hi
  rw [h.cellAt (i*2+1) dk,hx _ dk,if_neg dk];rfl
theorem QpN(zs:List Int)(k l:Nat)(hl:l<=15)(hn:zs.length<=320):nx zs k l<=20971840:=by
 unfold nx;split
 ·omega
 ·have J:=Qh1 (cnt zs) (fun i=>Nat.le_trans (QcB _ _) hn) l
  have h2:cnt (zs.take k) l<=320:=Nat.le_trans (QcB _ _) du;have h3:2^l<=32768:=Nat.le_trans (Nat.pow_le_pow_right dn hl) dn;omega
theorem QbW(ao:Option Addr)(cap:Nat)(zs:List Int)(w:World)(hr:Qv w ao zs)(hn:zs.length<=1048576):
  Calls prog 58 #[.slice ao zs.length cap] w fun e w'=>Qe0 w.heap.size w' e zs/\Below w.heap.size w w':=by
 obtain ⟨i0,hi,af,ak,aq⟩:=info_parts Tryz.info_hc;have HC:=Qg<|Qdc ao cap zs w hr hn
 have HR:=Qg hr;clear hr;go_enter func58,ntmps58;go_wp2_with fail;refine Calls.mono HC.u ?_;rintro e w1 ⟨⟨L,rfl,ai,m,P⟩,aj⟩;refine nk ?_;intro hN D n o ah a1 d au u;have bd:=aj.size;have E:w1.heap.size<((w1.alloc (.cells #[.int .i64 0,.int .i64 0,.int .i64 0,.int .i64 0,.int .i64 0,.int .i64 0,.int .i64 0,.int .i64 0,.int .i64 0,.int .i64 0,.int .i64 0,.int .i64 0,.int .i64 0,.int .i64 0,.int .i64 0,.int .i64 0] 156)).setCells w1.heap.size 0 L).heap.size:=by
  have:=(Q5 w1.heap.size L 0 (w1.alloc (.cells #[.int .i64 0,.int .i64 0,.int .i64 0,.int .i64 0,.int .i64 0,.int .i64 0,.int .i64 0,.int .i64 0,.int .i64 0,.int .i64 0,.int .i64 0,.int .i64 0,.int .i64 0,.int .i64 0,.int .i64 0,.int .i64 0] 156))).size;simp at this;omega
 clear hN HC aj ah m P ai;by_cases A:okB zs=true
 ·have aE:=u.u A
  have S:=(Qcl A).1;have HK:=Qg (fun W=>Qhc (cnt zs) L W au.u jt (fun i=>Nat.le_trans (QcB _ _) S));have HF:=Qg (fun W=>Qfv (cnt zs) L W au.u jt (fun i=>Nat.le_trans (QcB _ _) S));have aM:=Qg<|QiB A
  have a4:=Qg (Qcl A).2;rw [A];clear aE;go_upto_region 2 with (refine wpList_store_mid rfl _ _ _ rfl w1.heap.size 0 L.toArray rfl rfl gC dQ a1.u ?_);generalize (w1.alloc (.cells #[.int .i64 0,.int .i64 0,.int .i64 0,.int .i64 0,.int .i64 0,.int .i64 0,.int .i64 0,.int .i64 0,.int .i64 0,.int .i64 0,.int .i64 0,.int .i64 0,.int .i64 0,.int .i64 0,.int .i64 0,.int .i64 0] 156)).setCells w1.heap.size 0 L=w2 at*;have Z:∀i,i<16->w2.cell? ⟨w1.heap.size,0+i,none⟩=some (.int .i64 (cnt zs i:Nat)):=fun i hi=>o i _ (by rw [u.u A];exact Qbv _ i hi)
  have C:w2.cell? ⟨w1.heap.size,0,none⟩=some (.int .i64 (cnt zs 0:Nat)):=by have:=Z 0 dk;simpa using this
  have c1:w2.cell? ⟨w1.heap.size,1,none⟩=some (.int .i64 (cnt zs 1:Nat)):=by have:=Z 1 dk;simpa using this
  have c2:w2.cell? ⟨w1.heap.size,2,none⟩=some (.int .i64 (cnt zs 2:Nat)):=by have:=Z 2 dk;simpa using this
  have c3:w2.cell? ⟨w1.heap.size,3,none⟩=some (.int .i64 (cnt zs 3:Nat)):=by have:=Z 3 dk;simpa using this
  have c4:w2.cell? ⟨w1.heap.size,4,none⟩=some (.int .i64 (cnt zs 4:Nat)):=by have:=Z 4 dk;simpa using this
  have c5:w2.cell? ⟨w1.heap.size,5,none⟩=some (.int .i64 (cnt zs 5:Nat)):=by have:=Z 5 dk;simpa using this
  have c6:w2.cell? ⟨w1.heap.size,6,none⟩=some (.int .i64 (cnt zs 6:Nat)):=by have:=Z 6 dk;simpa using this
  have c7:w2.cell? ⟨w1.heap.size,7,none⟩=some (.int .i64 (cnt zs 7:Nat)):=by have:=Z 7 dk;simpa using this
  have c8:w2.cell? ⟨w1.heap.size,8,none⟩=some (.int .i64 (cnt zs 8:Nat)):=by have:=Z 8 dk;simpa using this
  have c9:w2.cell? ⟨w1.heap.size,9,none⟩=some (.int .i64 (cnt zs 9:Nat)):=by have:=Z 9 dk;simpa using this
  have ad:w2.cell? ⟨w1.heap.size,10,none⟩=some (.int .i64 (cnt zs 10:Nat)):=by have:=Z 10 dk;simpa using this
  have y:w2.cell? ⟨w1.heap.size,11,none⟩=some (.int .i64 (cnt zs 11:Nat)):=by have:=Z 11 dk;simpa using this
  have av:w2.cell? ⟨w1.heap.size,12,none⟩=some (.int .i64 (cnt zs 12:Nat)):=by have:=Z 12 dk;simpa using this
  have aF:w2.cell? ⟨w1.heap.size,13,none⟩=some (.int .i64 (cnt zs 13:Nat)):=by have:=Z 13 dk;simpa using this
  have t:w2.cell? ⟨w1.heap.size,14,none⟩=some (.int .i64 (cnt zs 14:Nat)):=by have:=Z 14 dk;simpa using this
  have aB:w2.cell? ⟨w1.heap.size,15,none⟩=some (.int .i64 (cnt zs 15:Nat)):=by have:=Z 15 dk;simpa using this
  have bc:dm (∀W:World,Calls prog 93 #[.agg #[.int .i64 (cnt zs 0:Nat),.int .i64 (cnt zs 1:Nat),.int .i64 (cnt zs 2:Nat),.int .i64 (cnt zs 3:Nat),.int .i64 (cnt zs 4:Nat),.int .i64 (cnt zs 5:Nat),.int .i64 (cnt zs 6:Nat),.int .i64 (cnt zs 7:Nat),.int .i64 (cnt zs 8:Nat),.int .i64 (cnt zs 9:Nat),.int .i64 (cnt zs 10:Nat),.int .i64 (cnt zs 11:Nat),.int .i64 (cnt zs 12:Nat),.int .i64 (cnt zs 13:Nat),.int .i64 (cnt zs 14:Nat),.int .i64 (cnt zs 15:Nat)]] W fun e w'=>e=.returned (.int .i64 (Qcn (VC (cnt zs) 15) (VC (fun l=>cnt zs l*2^(15-l)) 15) (cnt zs 1)))/\Below W.heap.size W w'):=by
   intro W;have h:=HK.u W;rw [u.u A] at h;exact h
  clear n Z;go_wp2_with fail;refine Calls.mono (bc.u _) ?_;rintro e w3 ⟨rfl,r⟩;rw [aM.u];have aS:w3.rangeAt w1.heap.size 0 L:=fun j v hv=>(r.cell (p:=⟨w1.heap.size,0+j,none⟩) E).trans (o j v hv)
  have z:=Qg<|d.u.trans (r.mono d.u.size)
  have aV:w1.heap.size<w3.heap.size:=by have:=r.size;omega
  clear r o d HK aM E bc C c1 c2 c3 c4 c5 c6 c7 c8 c9 ad y av aF t aB;by_cases a0:hk zs=2
  ·have aL:okC zs=false:=by simp [okC,a0]
   have aU:(hk zs == 2)=true:=by simp [a0]
   have ay:=Qg aL;clear a0 aL;go_wp2_with fail;go_ret;exact ⟨Qe0.no _ _ _ _ _ ay.u,z.u⟩
  ·have aL:okC zs=true:=by simp [okC,A,a0]
   have aU:(hk zs == 2)=false:=by simp [a0]
   have ay:=Qg aL;clear a0 aL;have hm:zs.length<=maxLen:=dy;go_wp2_with (at_make;refine wpList_make_full _ rfl _ _ 110 rfl w3.heap.size 118 i0 (.agg #[.int .i64 0,.int .u64 0]) 2 underlying110 hi af ak _ _ _ _ zs.length rfl rfl rfl rfl gD hm (Nat.le_refl _) ?_)
   intro w4 R Q;have f:=VP.made R (fun j hj=>Qpk _ j hj);have T:Below w3.heap.size w3 w4:=QbM Q;have aQ:w4.rangeAt w1.heap.size 0 L:=fun j v hv=>(T.cell (p:=⟨w1.heap.size,0+j,none⟩) aV).trans (aS j v hv)
   have F:=Qg<|z.u.trans (T.mono z.u.size)
   have aK:=Qg f;have bf:=f.lt;have al:=z.u.size;clear R Q T aS z f;go_wp2_with (refine wpList_load_mid rfl _ _ rfl _ _ rfl L _ aQ underlying156 rfl D ?_)
   refine Calls.mono (HF.u _) ?_;rintro e w5 ⟨rfl,az⟩;obtain ⟨K,hK⟩:=dt (cells16u (fst (cnt zs)));have aT:=QdK<|fst (cnt zs)
   have aO:=Qcc<|fst (cnt zs)
   rw [hK] at aT aO ⊢;have aX:=Qau.new w5 159;have aP:(prog.info? 159).map (·.size)=some K.length:=by rw [aO];exact Tryz.size_cntu
   have aH:(w5.alloc (.cells #[.int .u64 0,.int .u64 0,.int .u64 0,.int .u64 0,.int .u64 0,.int .u64 0,.int .u64 0,.int .u64 0,.int .u64 0,.int .u64 0,.int .u64 0,.int .u64 0,.int .u64 0,.int .u64 0,.int .u64 0,.int .u64 0] 159)).there w5.heap.size 0 K.length:=by rw [aO];exact aX.there
   have aZ:=World.rangeAt_setCells_same _ w5.heap.size 0 K aH;have aW:=Q5 w5.heap.size K 0 (w5.alloc (.cells #[.int .u64 0,.int .u64 0,.int .u64 0,.int .u64 0,.int .u64 0,.int .u64 0,.int .u64 0,.int .u64 0,.int .u64 0,.int .u64 0,.int .u64 0,.int .u64 0,.int .u64 0,.int .u64 0,.int .u64 0,.int .u64 0] 159));have aR:=Qg<|all_oneCell_toArray aT
   have aN:∀i,((w5.alloc (.cells #[.int .u64 0,.int .u64 0,.int .u64 0,.int .u64 0,.int .u64 0,.int .u64 0,.int .u64 0,.int .u64 0,.int .u64 0,.int .u64 0,.int .u64 0,.int .u64 0,.int .u64 0,.int .u64 0,.int .u64 0,.int .u64 0] 159)).setCells w5.heap.size 0 K).frozen? ⟨w5.heap.size,i,none⟩=false:=fun i=>by rw [World.frozen?_setCells];exact aX.free i
   have bh:Qau ((w5.alloc (.cells #[.int .u64 0,.int .u64 0,.int .u64 0,.int .u64 0,.int .u64 0,.int .u64 0,.int .u64 0,.int .u64 0,.int .u64 0,.int .u64 0,.int .u64 0,.int .u64 0,.int .u64 0,.int .u64 0,.int .u64 0,.int .u64 0] 159)).setCells w5.heap.size 0 K) w5.heap.size (nx zs 0):=⟨fun i hi=>by
    have J:=aZ i _ (by rw [<-hK];exact Qen _ i hi);rw [Nat.zero_add] at J;rw [J];congr 2;unfold nx;by_cases H:i=0
    ·subst H;rfl
    ·rw [if_neg H];simp [cnt],aN⟩
   have ba:VP ((w5.alloc (.cells #[.int .u64 0,.int .u64 0,.int .u64 0,.int .u64 0,.int .u64 0,.int .u64 0,.int .u64 0,.int .u64 0,.int .u64 0,.int .u64 0,.int .u64 0,.int .u64 0,.int .u64 0,.int .u64 0,.int .u64 0,.int .u64 0] 159)).setCells w5.heap.size 0 K) w3.heap.size zs.length (Qcb zs 0):=(((aK.u.grown (Qk az none) dr).grown (World.grownBy_alloc _ _ none) dr).grown aW (by have:=az.size;simp;omega)).congr (fun i _=>by simp [Qcb]);have a8:Below w.heap.size w ((w5.alloc (.cells #[.int .u64 0,.int .u64 0,.int .u64 0,.int .u64 0,.int .u64 0,.int .u64 0,.int .u64 0,.int .u64 0,.int .u64 0,.int .u64 0,.int .u64 0,.int .u64 0,.int .u64 0,.int .u64 0,.int .u64 0,.int .u64 0] 159)).setCells w5.heap.size 0 K):=by
    have J:=F.u.trans<|az.mono F.u.size
    have h2:=J.alloc J.size (.cells #[.int .u64 0,.int .u64 0,.int .u64 0,.int .u64 0,.int .u64 0,.int .u64 0,.int .u64 0,.int .u64 0,.int .u64 0,.int .u64 0,.int .u64 0,.int .u64 0,.int .u64 0,.int .u64 0,.int .u64 0,.int .u64 0] 159);exact h2.grown aW h2.size (by intro q e;simp at e;have:=J.size;omega)
   have bj:w3.heap.size<w5.heap.size:=by have:=az.size;omega
   have aY:=Qg bh;have a':=Qg ba;have a6:=Qg a8;clear az F aK aX aZ aW aN bh ba a8 aT aO hK HF aQ;go_upto_region 6 with (refine wpList_store_mid rfl _ _ _ rfl w5.heap.size 0 K.toArray rfl rfl (by simpa using aH) (by simpa using aP) aR.u ?_);generalize ((w5.alloc (.cells #[.int .u64 0,.int .u64 0,.int .u64 0,.int .u64 0,.int .u64 0,.int .u64 0,.int .u64 0,.int .u64 0,.int .u64 0,.int .u64 0,.int .u64 0,.int .u64 0,.int .u64 0,.int .u64 0,.int .u64 0,.int .u64 0] 159)).setCells w5.heap.size 0 K)=w6 at*;clear aH aP aR;go_wp2_with fail;go_loopw [28] (fun i wr=>∃k:Nat,k<=zs.length/\i=.int .i64 k/\Qau wr w5.heap.size (nx zs k)/\VP wr w3.heap.size zs.length (Qcb zs k)/\Below w.heap.size w wr) (fun i _=>zs.length-(intOf i).toNat)
   case atStart=>exact ⟨0,Nat.zero_le _,rfl,aY.u,a'.u,a6.u⟩
   case round=>
    clear aY a' a6;obtain ⟨k,hk,rfl,hU,f,a⟩:=hrel;by_cases ab:k<zs.length
    ·obtain ⟨b,U,rfl,I⟩:=HR.u.at ab
     refine jr ?_;intro hb a5;have a2:zs[k]=zs.getD k 0:=by simp [List.getD,ab]
     have hx:=a4.u (zs[k]) (List.getElem_mem ab);rw [a2] at hx;obtain ⟨l,hl⟩:∃l:Nat,zs.getD k 0=l:=⟨(zs.getD k 0).toNat,dk⟩;have P:∀i,cnt (zs.take (k+1)) i=cnt (zs.take k) i+if l=i then 1 else 0:=by
      intro i;rw [Vg zs k ab,QdE,hl];simp only [Int.ofNat_inj]
     have aI:code zs k=if l=0 then (0,0) else (l,tr (fst (cnt zs) l+cnt (zs.take k) l) l):=by
      unfold code;rw [hl,Int.toNat_natCast]
     rw [hl] at a5 hx;have aC:l<=15:=dk;have N:=Qg P;have x:=Qg aI;clear I a2 hl P aI;by_cases V:l=0
     ·subst V
      have a7:=Qg (hU.congr (g:=nx zs (k+1)) (fun i=>by
       unfold nx;by_cases H:i=0
       ·rw [if_pos H,if_pos H]
       ·rw [if_neg H,if_neg H,N.u i,if_neg dk];rfl))
      have aA:=Qg (f.congr (G:=Qcb zs (k+1)) (fun i _=>by
       unfold Qcb;by_cases J:i<k
       ·rw [if_pos J,if_pos dk]
       ·rw [if_neg J]
        by_cases h2:i=k
        ·subst h2;rw [if_pos dk,x.u];rfl
        ·rw [if_neg dk]))
      have O:=Qg a;clear hU f a N x;go_wp2_with fail;go_roundw
      case rel=>exact ⟨k+1,dk,dw,a7.u,aA.u,O.u⟩
      case measure=>simp [intOf];omega
     ·have hX:=QpN zs k l aC S
      have M:nx zs k l=fst (cnt zs) l+cnt (zs.take k) l:=if_neg V;have cu:=hU.at_ l dk;have fu:=hU.free l;have C:=f.at0 k ab;have c1:=f.at1 k ab;have f0:=f.free<|k*2
      have f1:=f.free<|k*2+1
      have HT:=Qg (fun W=>Qgw (nx zs k l) l dk dk aC W);obtain ⟨aa,ag⟩:=f.set ab l (tr (nx zs k l) l);have a9:=hU.grown ag du;have c:=(a9.set (l:=l) dk (nx zs k l+1)).congr (g:=nx zs (k+1)) (fun i=>by
       unfold nx;by_cases J:i=l
       ·rw [if_pos J,J,if_neg V,if_neg V,N.u l,if_pos rfl];omega
       ·rw [if_neg J]
        by_cases H:i=0
        ·rw [if_pos H,if_pos H]
        ·rw [if_neg H,if_neg H,N.u i,if_neg dk];rfl)
      have aw:((wr.setCell ⟨w3.heap.size,k*2,none⟩ (.int .i64 l)).setCell ⟨w3.heap.size,k*2+1,none⟩ (.int .u64 (tr (nx zs k l) l:Nat))).grownBy (((wr.setCell ⟨w3.heap.size,k*2,none⟩ (.int .i64 l)).setCell ⟨w3.heap.size,k*2+1,none⟩ (.int .u64 (tr (nx zs k l) l:Nat))).setCell ⟨w5.heap.size,l,none⟩ (.int .u64 ((nx zs k l+1:Nat):Int))) (some w5.heap.size):=Qf _ _ _;have s:=(aa.grown aw du).congr (G:=Qcb zs (k+1)) (fun i _=>by
       unfold Qcb;by_cases h2:i=k
       ·subst h2;rw [if_pos rfl,if_pos dk,x.u,if_neg V,<-M]
       ·rw [if_neg h2]
        by_cases J:i<k
        ·rw [if_pos J,if_pos dk]
        ·rw [if_neg J,if_neg dk])
      have ae:=a.grown ag a.size ef;have B:=ae.grown aw ae.size ef;obtain ⟨X,aJ⟩:=dt (nx zs k l);rw [aJ] at cu HT c s B hX;obtain ⟨Y,hY⟩:=dt (tr X l);rw [hY] at HT c s B;have bk:((wr.setCell ⟨w3.heap.size,k*2,none⟩ (.int .i64 l)).setCell ⟨w3.heap.size,k*2+1,none⟩ (.int .u64 Y)).cell? ⟨w5.heap.size,l,none⟩=some (.int .u64 X):=by
       rw [World.cell?_setCell_other _ _ _ _ dB,World.cell?_setCell_other _ _ _ _ dB];exact cu
      simp only [Int.natCast_add] at c s B;have aD:=Qg c;have a3:=Qg s;have bb:=Qg B;have ax:(k:Int)<(zs.length:Int):=dk;have aG:(l:Int)<16:=dk;have an:w5.heap.size≠w3.heap.size:=dk;generalize (Qcb zs k k).1=o0 at*;generalize (Qcb zs k k).2=o1 at*;clear hU f a aa ag a9 c aw s ae B M aJ hY N x;go_wp2_with fail;refine Calls.mono (HT.u _) ?_;rintro e w7 ⟨rfl,rfl⟩;go_wp2_with fail;go_roundw
      case rel=>exact ⟨k+1,dk,dw,aD.u,a3.u,bb.u⟩
      case measure=>simp [intOf];omega
    ·have e:k=zs.length:=dk
     subst e;have ar:=f.congr (G:=code zs) (fun i hi=>if_pos hi);go_wp2_with fail;go_ret;exact ⟨Qe0.yes _ _ _ _ _ ay.u dk ar,a⟩
 ·have A:okB zs=false:=by simpa using A
  have aL:okC zs=false:=by simp [okC,A]
  rw [A];have ay:=Qg aL;clear aL;go_wp2_with (first|(refine wpList_store_mid rfl _ _ _ rfl w1.heap.size 0 L.toArray rfl rfl gC dQ a1.u ?_)|(refine wpList_load_mid rfl _ _ rfl _ _ rfl L _ o underlying156 rfl D ?_))
  go_ret;exact ⟨Qe0.no _ _ _ _ _ ay.u,d.u⟩
end
end Go.Proofs.YtgginbpmebgkcaaGreatDoor
