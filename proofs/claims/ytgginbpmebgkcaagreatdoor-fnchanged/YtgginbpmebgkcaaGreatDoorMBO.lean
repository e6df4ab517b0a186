import Derived.Test.YtgginbpmebgkcaaGreatDoorMBH
import Derived.Test.YtgginbpmebgkcaaGreatDoorMBN
namespace Go.Proofs.YtgginbpmebgkcaaGreatDoor
open Go.RowKit Go.Proofs.Tryz
attribute [local go_sem ↓] Go.wp_at_zero Go.wp_at_succ
set_option linter.unusedVariables false
set_option maxRecDepth 100000
set_option maxHeartbeats 25600000
section
variable{w w':World}{z:Nat}{C:Nat->Value}
structure GZ(w:World)(z:Nat)(C:Nat->Value):Prop where
 c:∀k,k<14->w.cell? ⟨z,k,none⟩=some (C k)
 f:∀k,w.frozen? ⟨z,k,none⟩=false
theorem GZ.lt(h:GZ w z C):z<w.heap.size:=World.block_lt_of_cell? w _ (h.c 0 dn)
theorem GZ.same(h:GZ w z C)(hb:w'.heap[z]?=w.heap[z]?):GZ w' z C:=
 ⟨fun k hk=>(World.cell?_of_block (w:=w) (a:=⟨z,k,none⟩) hb).trans (h.c k hk),fun k=>(World.frozen?_of_block (w:=w) (a:=⟨z,k,none⟩) hb).trans (h.f k)⟩
theorem GZ.below(h:GZ w z C)(hb:Below w.heap.size w w'):GZ w' z C:=h.same (hb.block z h.lt)
theorem GZ.grown{row:Option Nat}(h:GZ w z C)(hg:w.grownBy w' row)(hne:some z≠row):GZ w' z C:=h.same (hg.block z h.lt hne)
def VE(C:Nat->Value)(j:Nat)(v:Value):Nat->Value:=fun k=>if k=j then v else C k
theorem GZ.set(h:GZ w z C)(j:Nat)(v:Value):GZ (w.setCell ⟨z,j,none⟩ v) z (VE C j v):=rG
def crcU(c:Nat)(zs:List Int):Nat:=Crc.cr (c^^^4294967295) zs^^^4294967295
theorem Qd0(c:Nat)(hc:c<4294967296)(zs:List Int)(h:Qh zs):crcU c zs<4294967296:=Nat.xor_lt_two_pow (n:=32) (Crc.cr_lt _ zs (Nat.xor_lt_two_pow (n:=32) hc dn) h) dn
theorem Qjw(c:Nat):crcU c []=c:=by
 unfold crcU;show (c^^^4294967295)^^^4294967295=c;rw [Nat.xor_assoc,Nat.xor_self,Nat.xor_zero]
theorem Qd9(z q p hB:Nat)(zs:List Int)(i n hs:Nat)(C:Nat->Value)(w:World)(hZ:GZ w z C)(h0:C 0=.pointer (some ⟨q,0,none⟩))(h12:C 12=.int .u32 (hs:Nat))(hhs:hs<4294967296)(hzp:z≠p)(hm:w.cell? ⟨q,0,none⟩=some (.pointer (some ⟨p,0,none⟩)))(h:Rd w p hB zs i)(h8:i%8=0)(hz:Qh zs)(hzl:zs.length<=65536)(hn5:n<512)(hn:i+8*n<=8*zs.length):
  Calls prog 161 #[.pointer (some ⟨z,0,none⟩),.int .i64 (n:Nat)] w fun e w'=>∃bo bc w1,e=.returned (.tuple #[.slice bo n bc,.nilIface])/\Qah w.heap.size w1 bo bc ((zs.drop (i/8)).take n)/\Rd w1 p hB zs (i+8*n)/\w.grownBy w1 (some p)/\w'=w1.setCell ⟨z,12,none⟩ (.int .u32 (crcU hs ((zs.drop (i/8)).take n):Nat)):=by
 have F:=Qe<|Qig q p hB zs i n w hm h h8 hzl hn
 refine rH ?_;intro ah ai;obtain ⟨X,hX⟩:=dt (crcU hs ((zs.drop (i/8)).take n));have k:=Qe (fun W a c hr=>Qf1 hs hhs a c ((zs.drop (i/8)).take n) n ai W hr ah dk);have M:Crc.cr (hs^^^4294967295) ((zs.drop (i/8)).take n)^^^4294967295=X:=hX;rw [M] at k;rw [hX];have af:=hZ.c 0 dn;rw [h0] at af;have HZ:=Qe hZ;have b:=Qe h12;clear hZ h0 h12 h hz ah hX M;generalize (zs.drop (i/8)).take n=D at*;go_enter func161,ntmps161;go_wp2_with fail;refine Calls.mono F.u ?_;rintro e w1 ⟨bo,bc,rfl,t,P,O⟩;have M1:=Qe t;have R1:=Qe P;have u:=Qe O;have r:=Qe<|HZ.u.grown O dW
 have d:=r.u.c 12 dn;rw [b.u] at d;have g:=r.u.f 12;have C1:=Qe<|k.u w1 bo bc t.row
 clear t P O F HZ k af;go_wp2_with fail;refine Calls.mono C1.u ?_;rintro e w2 ⟨rfl,E⟩;obtain rfl:=E.symm;go_wp2_with fail;exact bodyPost_ret (v:=.tuple #[.slice bo n bc,.nilIface]) (by simp [results,results161,go_sem]) rfl ⟨bo,bc,w1,rfl,M1.u,R1.u,u.u,rfl⟩
theorem Qew(z q p hB:Nat)(zs:List Int)(i n hs:Nat)(C:Nat->Value)(w:World)(hZ:GZ w z C)(h0:C 0=.pointer (some ⟨q,0,none⟩))(h12:C 12=.int .u32 (hs:Nat))(hhs:hs<4294967296)(hm:w.cell? ⟨q,0,none⟩=some (.pointer (some ⟨p,0,none⟩)))(h:Rd w p hB zs i)(h8:i%8=0)(hzl:zs.length<=65536)(hn:¬i+8*n<=8*zs.length):
  Calls prog 161 #[.pointer (some ⟨z,0,none⟩),.int .i64 (n:Nat)] w fun e w'=>∃w1,e=.returned (.tuple #[.slice none 0 0,flt 2])/\Below w.heap.size w w1/\w'=w1.setCell ⟨z,12,none⟩ (.int .u32 (hs:Nat)):=by
 have F:=Qe<|Qlf q p hB zs i n w hm h h8 hzl hn
 have k:=Qe (fun W=>Qf1 hs hhs none 0 [] 0 rfl W (Q1.nil _ _) (fun v hv=>d9) dr);have M:Crc.cr (hs^^^4294967295) []^^^4294967295=hs:=Qjw hs;rw [M] at k;have af:=hZ.c 0 dn;rw [h0] at af;have HZ:=Qe hZ;have b:=Qe h12;unfold flt at F;clear hZ h0 h12 h M;go_enter func161,ntmps161;go_wp2_with fail;refine Calls.mono F.u ?_;rintro e w1 ⟨rfl,hb⟩;have B1:=Qe hb;have r:=Qe<|HZ.u.below hb
 have d:=r.u.c 12 dn;rw [b.u] at d;have g:=r.u.f 12;clear hb F HZ af;go_wp2_with fail;refine Calls.mono (k.u w1) ?_;rintro e w2 ⟨rfl,E⟩;obtain rfl:=E.symm;go_wp2_with fail;exact bodyPost_ret (v:=.tuple #[.slice none 0 0,flt 2]) (by simp [results,results161,go_sem,flt]) rfl ⟨w1,rfl,B1.u,rfl⟩
end
theorem Qqo(a b:Nat)(ha:a<2^63)(hb:b<2^63):bits .or .i64 (a:Int) (b:Int)=((a|||b:Nat):Int):=by
 show IntKind.i64.wrap ((BitVec.ofInt 64 a|||BitVec.ofInt 64 b).toNat:Nat)=_;rw [BitVec.toNat_or,BitVec.ofInt_natCast,BitVec.ofInt_natCast,BitVec.toNat_ofNat,BitVec.toNat_ofNat,Nat.mod_eq_of_lt dk,Nat.mod_eq_of_lt dk,IntKind.wrap_i64];have:a|||b<2^63:=Nat.or_lt_two_pow ha hb
 first|omega|(unfold wrap64;omega)
theorem Ql3(y k:Nat)(x:Int)(hy:y<256^k)(hk:k<=3)(x0:0<=x)(x1:x<=255):bits .or .i64 (y:Int) (wrap64 (x*2^(8*k)))=((y+x.toNat*256^k:Nat):Int):=by
 obtain ⟨X,rfl⟩:=Int.eq_ofNat_of_zero_le x0;rw [Int.toNat_natCast,Qlc] at*;have N:(2:Nat)^(8*k)<=2^24:=Nat.pow_le_pow_right dn dk;have hX:X*2^(8*k)<=255*2^24:=Nat.mul_le_mul dk N;have e:(X:Int)*2^(8*k)=((X*2^(8*k):Nat):Int):=gw;rw [e];have ai:y|||X*2^(8*k)=y+X*2^(8*k):=mH
 generalize X*2^(8*k)=Z at*;have A:wrap64 (Z:Int)=(Z:Int):=gy;rw [A,Qqo y Z dk dk,ai]
theorem QiJ{zs:List Int}(hz:Qh zs){i n:Nat}(h8:i%8=0)(hn:i+8*n<=8*zs.length):field (bnum zs) i (8*n)=bnum ((zs.drop (i/8)).take n):=by
 obtain ⟨j,rfl⟩:∃j,i=8*j:=⟨i/8,dk⟩;rw [show 8*j/8=j by omega];have hd:=Qhf zs hz j dk;rw [show (256:Nat)^j=2^(8*j) from by rw [Nat.pow_mul]] at hd;have hl:=Qf9 (zs.drop j) n 0 (8*n) dk;have ho:Qh ((zs.drop j).take n):=fun v hv=>hz v (List.mem_of_mem_drop (List.mem_of_mem_take hv))
 have ab:=Qb1 _ ho;rw [List.length_take,List.length_drop,Nat.min_eq_left dk,show (256:Nat)^n=2^(8*n) from by rw [Nat.pow_mul]] at ab;rw [Nat.pow_zero,Nat.div_one,Nat.div_one,Nat.mod_eq_of_lt ab,hd] at hl;unfold field;exact hl.symm
theorem QeM(z q p hB:Nat)(zs:List Int)(i n hs:Nat)(C:Nat->Value)(w:World)(hZ:GZ w z C)(h0:C 0=.pointer (some ⟨q,0,none⟩))(h12:C 12=.int .u32 (hs:Nat))(hhs:hs<4294967296)(hzp:z≠p)(hm:w.cell? ⟨q,0,none⟩=some (.pointer (some ⟨p,0,none⟩)))(h:Rd w p hB zs i)(h8:i%8=0)(hz:Qh zs)(hzl:zs.length<=65536)(hn1:1<=n)(hn4:n<=4)(hn:i+8*n<=8*zs.length):
  Calls prog 115 #[.pointer (some ⟨z,0,none⟩),.int .i64 (n:Nat)] w fun e w'=>∃w1,e=.returned (.tuple #[.int .i64 (field (bnum zs) i (8*n):Nat),.nilIface])/\Rd w1 p hB zs (i+8*n)/\w.grownBy w1 (some p)/\w'=w1.setCell ⟨z,12,none⟩ (.int .u32 (crcU hs ((zs.drop (i/8)).take n):Nat)):=by
 have HD:=Qe<|Qd9 z q p hB zs i n hs C w hZ h0 h12 hhs hzp hm h h8 hz hzl dk hn
 refine rH ?_;intro ah ai;have Y:=QiJ hz h8 hn;have al:=hZ.lt;obtain ⟨X,hX⟩:=dt (crcU hs ((zs.drop (i/8)).take n));rw [hX] at HD ⊢;rw [Y];clear hZ h0 h12 h hz hX Y;generalize (zs.drop (i/8)).take n=D at*;go_enter func115,ntmps115;go_wp2_with fail;refine Calls.mono HD.u ?_;rintro e w2 ⟨Q,bc,w1,rfl,t,P,O,E⟩;have o:=Qe<|(t.grown (Qf w1 ⟨z,12,none⟩ (.int .u32 (X:Nat))) (fun k e e2=>by simp at e;subst e;exact t.far al e2)).row
 rw [<-E] at o;have R1:=Qe P;have u:=Qe O;have f:=Qe E;have au:=Qe ai;have ay:=Qe ah;clear t P O E HD ai ah;go_wp2_with fail;go_loopw [8,9,10,19] (fun v8 _ _ v19 wr=>∃k:Nat,k<=n/\v19=.int .i64 (k:Nat)/\v8=.int .i64 (bnum (D.take k):Nat)/\wr=w2) (fun _ _ _ v19 _=>n-(intOf v19).toNat)
 case atStart=>exact ⟨0,Nat.zero_le _,rfl,rfl,rfl⟩
 case round=>
  obtain ⟨k,hk,rfl,rfl,rfl⟩:=hrel;by_cases ab:k<n
  ·have c:k<D.length:=by rw [au.u];exact ab
   obtain ⟨b,U,rfl,I⟩:=o.u.at c;have a2:=I k c;have hy:=ay.u.getD k;have K:=Qb1 (D.take k) (VL ay.u k);rw [List.length_take,Nat.min_eq_left dk] at K;have HB:dm (bnum (D.take (k+1))=bnum (D.take k)+(D.getD k 0).toNat*256^k):=Qc9 D k c;have a:=Ql3 (bnum (D.take k)) k (D.getD k 0) K dk hy.1 hy.2;rw [<-HB.u] at a;obtain ⟨B2,ae⟩:=dt (bnum (D.take (k+1)));have d:=Qe ae;rw [ae] at a;clear ae HB;generalize bnum (D.take k)=B1 at*;generalize D.getD k 0=y at*;obtain ⟨m,g⟩:=dt (8*k);have r:(8:Int)*(k:Int)=(m:Int):=dk;have F:m<=24:=dk;rw [g] at a;have j:=Qe a;clear I a K g;go_wp2_with fail;go_roundw
   case rel=>exact ⟨k+1,dk,dw,by rw [j.u,d.u],trivial⟩
   case measure=>simp [intOf];omega
  ·have e:k=n:=dk
   subst e;have l:D.take k=D:=List.take_of_length_le (by rw [au.u];omega);rw [l];clear ab hk l;go_wp2_with fail;exact bodyPost_ret (v:=.tuple #[.int .i64 (bnum D:Nat),.nilIface]) (by simp [results,results115,go_sem]) rfl ⟨w1,rfl,R1.u,u.u,f.u⟩
theorem Qgn(z q p hB:Nat)(zs:List Int)(i n hs:Nat)(C:Nat->Value)(w:World)(hZ:GZ w z C)(h0:C 0=.pointer (some ⟨q,0,none⟩))(h12:C 12=.int .u32 (hs:Nat))(hhs:hs<4294967296)(hm:w.cell? ⟨q,0,none⟩=some (.pointer (some ⟨p,0,none⟩)))(h:Rd w p hB zs i)(h8:i%8=0)(hzl:zs.length<=65536)(hn:¬i+8*n<=8*zs.length):
  Calls prog 115 #[.pointer (some ⟨z,0,none⟩),.int .i64 (n:Nat)] w fun e w'=>∃w1,e=.returned (.tuple #[.int .i64 0,flt 2])/\Below w.heap.size w w1/\w'=w1.setCell ⟨z,12,none⟩ (.int .u32 (hs:Nat)):=by
 have HD:=Qe<|Qew z q p hB zs i n hs C w hZ h0 h12 hhs hm h h8 hzl hn
 unfold flt at HD;clear hZ h0 h12 h;go_enter func115,ntmps115;go_wp2_with fail;refine Calls.mono HD.u ?_;rintro e w2 ⟨w1,rfl,hb,E⟩;have B1:=Qe hb;have f:=Qe E;clear hb E HD;go_wp2_with fail;go_loopw [8,9,10,19] (fun v8 _ _ v19 wr=>v19=.int .i64 0/\v8=.int .i64 0/\wr=w2) (fun _ _ _ v19 _=>0)
 case atStart=>exact ⟨rfl,rfl,rfl⟩
 case round=>
  obtain ⟨rfl,rfl,rfl⟩:=hrel;go_wp2_with fail;exact bodyPost_ret (v:=.tuple #[.int .i64 0,flt 2]) (by simp [results,results115,go_sem,flt]) rfl ⟨w1,rfl,B1.u,f.u⟩
end Go.Proofs.YtgginbpmebgkcaaGreatDoor
