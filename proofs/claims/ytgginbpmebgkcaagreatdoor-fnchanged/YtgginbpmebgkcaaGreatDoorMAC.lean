import Derived.WalkKit
import Derived.WalkSpells
import Derived.Deep.Draws
import Derived.Maps.AppendAt
import Derived.Laws.AppendOwnNone
import Derived.RegionTactic
import Derived.Laws.BitsAllLaws
import Derived.Test.YtgginbpmebgkcaaGreatDoorProg
import Derived.WalkLawsBesides
import Derived.Deep.QuietTactic
import Derived.BigQuiet
import Derived.Laws.CopyOwn
import Derived.Deep.RegionHeld3
import Derived.Deep.DrawnRows
import Derived.Deep.RegionWith
import Derived.Deep.CutRange
import Derived.Laws.Tables
import Derived.Test.YtgginbpmebgkcaaGreatDoorMAA
import Derived.Test.YtgginbpmebgkcaaGreatDoorMAB
namespace Go.Proofs.YtgginbpmebgkcaaGreatDoor
open Go.RowKit
set_option maxRecDepth 100000
set_option maxHeartbeats 25600000
section
variable{zs:List Int}{w w':World}{ao:Option Addr}{row:Option Nat}{base e g n cap:Nat}
def Q1(w:World)(ao:Option Addr)(zs:List Int):Prop:=
 ∀i,i<zs.length->∃b off,ao=some ⟨b,off,none⟩/\w.cell? ⟨b,off+i,none⟩=some (.int .u8 (zs.getD i 0))
def Qh(zs:List Int):Prop:=∀z∈zs,0<=z/\z<=255
theorem Qh.getD(h:Qh zs)(i:Nat):0<=zs.getD i 0/\zs.getD i 0<=255:=by
 by_cases hi:i<zs.length
 ·have:zs.getD i 0=zs[i]:=gu
  rw [this];exact h _ (List.getElem_mem hi)
 ·have:zs.getD i 0=0:=gu
  rw [this];decide
theorem Q1.nil(w:World)(ao:Option Addr):Q1 w ao []:=fun i hi=>absurd hi dr
theorem Q1.at(h:Q1 w ao zs){k:Nat}(hk:k<zs.length):
  ∃b off,ao=some ⟨b,off,none⟩/\∀i,i<zs.length->w.cell? ⟨b,off+i,none⟩=some (.int .u8 (zs.getD i 0)):=my
theorem Q1.of{b off:Nat}(h:∀i,i<zs.length->w.cell? ⟨b,off+i,none⟩=some (.int .u8 (zs.getD i 0))):Q1 w (some ⟨b,off,none⟩) zs:=
 fun i hi=>⟨b,off,rfl,h i hi⟩
theorem Q1.grown(h:Q1 w ao zs)(hg:w.grownBy w' row)(hne:∀ad,ao=some ad->some ad.block≠row):Q1 w' ao zs:=by
 intro i hi;obtain ⟨b,U,rfl,I⟩:=h i hi;exact ⟨b,U,rfl,hg.cell I (hne ⟨b,U,none⟩ rfl)⟩
theorem Q1.below(h:Q1 w ao zs)(hb:Below w.heap.size w w'):Q1 w' ao zs:=mz
theorem Q1.drewN(h:Q1 w ao zs)(k:Nat):Q1 (w.drewN k) ao zs:=h
theorem Qo(B:Nat)(w:World)(k:Nat):Below B w (w.drewN k):=⟨rfl,rfl,rfl,Nat.le_refl _,fun _ _=>rfl⟩
theorem QrG{W w1:World}(hb:Below W.heap.size W w1):(∀b o,b<W.heap.size->w1.cell? ⟨b,o,none⟩=W.cell? ⟨b,o,none⟩)/\(∀b o,b<W.heap.size->w1.frozen? ⟨b,o,none⟩=W.frozen? ⟨b,o,none⟩):=
 ⟨fun b o h=>hb.cell (p:=⟨b,o,none⟩) h,fun b o h=>hb.frozen (p:=⟨b,o,none⟩) h⟩
theorem Q1.owned(h:w.ownsRow base e 1 (.slice (some ⟨g,0,none⟩) n cap) n (zs.map (Value.int .u8))):Q1 w (some ⟨g,0,none⟩) zs:=by
 refine fD ?_;intro hl;subst hl;refine Q1.of fun i hi=>?_
 exact mA
def QjP(w:World)(ao:Option Addr)(n:Nat):Prop:=∀ad,ao=some ad->∀i,i<n->w.frozen? ⟨ad.block,ad.off+i,none⟩=false
theorem QjP.owned{xs:List Value}(h:w.ownsRow base e 1 (.slice (some ⟨g,0,none⟩) n cap) n xs)(m:Nat):QjP w (some ⟨g,0,none⟩) m:=by
 intro ad e i _;simp only [Option.some.injEq] at e;subst e;exact h.frozenAt _
theorem QjP.grown(h:QjP w ao zs.length)(hr:Q1 w ao zs)(hg:w.grownBy w' row)(hne:∀ad,ao=some ad->some ad.block≠row):QjP w' ao zs.length:=by
 intro ad e i hi;subst e;obtain ⟨b,U,e,I⟩:=hr i hi;simp only [Option.some.injEq] at e;subst e;rw [World.frozen?_of_block (w:=w) (hg.block b (World.block_lt_of_cell? w _ I) (hne ⟨b,U,none⟩ rfl))];exact h ⟨b,U,none⟩ rfl i hi
def Qt(ao:Option Addr):Option Nat:=ao.map (·.block)
theorem Qj{a b c:World}{r:Option Nat}(h:a.grownBy b r)(k:b.grownBy c r):a.grownBy c r:=
 ⟨k.os.trans h.os,k.tape.trans h.tape,k.output.trans h.output,Nat.le_trans h.size k.size,fun i hi hne=>(k.block i (Nat.lt_of_lt_of_le hi h.size) hne).trans (h.block i hi hne)⟩
theorem Qf(w:World)(a:Addr)(v:Value):w.grownBy (w.setCell a v) (some a.block):=
 ⟨rfl,rfl,rfl,dr,fun k _ hk=>heap_setCell_other w a k v (fun e=>hk fa)⟩
theorem QaF{a b:Bool}(h:a=b):Ending.returned (.bool a)=.returned (.bool b):=by rw [h]
end
section
structure Qah(B:Nat)(w:World)(ao:Option Addr)(cap:Nat)(zs:List Int):Prop where
 fits:zs.length<=cap
 most:cap<=maxLen
 row:Q1 w ao zs
 free:QjP w ao zs.length
 lies:∀ad,ao=some ad->B<=ad.block/\ad.block<w.heap.size/\ad.spot=none
 bare:ao=none->cap=0
theorem Qah.of_owns{B e:Nat}{w:World}{v:Value}{n:Nat}{zs:List Int}(h:w.ownsRow B e 1 v n (zs.map (Value.int .u8))):∃ao cap,v=.slice ao zs.length cap/\Qah B w ao cap zs:=by
 refine fD ?_;intro hl;subst hl;rcases h.2 with ⟨rfl,H⟩|⟨g,cap,M,rfl,hb,O,b,a,_⟩
 ·refine ⟨none,0,by rw [H],dk,dy,?_,?_,?_,fun _=>rfl⟩
  ·intro i hi;omega
  ·intro ad e;cases e
  ·intro ad e;cases e
 ·refine ⟨_,cap,rfl,b,a,Q1.owned h,QjP.owned h _,?_,fun e=>dx⟩
  intro ad e;simp only [Option.some.injEq] at e;subst e;refine ⟨hb,?_,rfl⟩;rcases Nat.lt_or_ge g w.heap.size with ab|bh
  ·exact ab
  ·rw [Array.getElem?_eq_none bh] at O;cases O
theorem Qah.mono{B B':Nat}{w:World}{ao:Option Addr}{cap:Nat}{zs:List Int}(h:Qah B w ao cap zs)(hB:B'<=B):Qah B' w ao cap zs:=
 {h with lies:=fun ad e=>⟨Nat.le_trans hB (h.lies ad e).1,(h.lies ad e).2⟩}
theorem Qah.grown{B:Nat}{w w':World}{row:Option Nat}{ao:Option Addr}{cap:Nat}{zs:List Int}(h:Qah B w ao cap zs)(hg:w.grownBy w' row)(hne:∀k,row=some k->Qt ao≠some k):Qah B w' ao cap zs:=by
 have M:∀ad,ao=some ad->some ad.block≠row:=by
  intro ad u b;exact hne _ b.symm (by rw [u];rfl)
 exact {h with row:=h.row.grown hg M,free:=h.free.grown h.row hg M,lies:=fun ad e=>⟨(h.lies ad e).1,Nat.lt_of_lt_of_le (h.lies ad e).2.1 hg.size,(h.lies ad e).2.2⟩}
theorem Qk{w w':World}(h:Below w.heap.size w w')(row:Option Nat):w.grownBy w' row:=⟨h.os,h.tape,h.output,h.size,fun k hk _=>h.block k hk⟩
theorem QbM{w w':World}(h:w.grownBy w' none):Below w.heap.size w w':=⟨h.os,h.tape,h.output,h.size,fun k hk=>h.block k hk dr⟩
theorem Qah.below{B:Nat}{w w':World}{ao:Option Addr}{cap:Nat}{zs:List Int}(h:Qah B w ao cap zs)(hb:Below w.heap.size w w'):Qah B w' ao cap zs:=
 h.grown (Qk hb none) (fun _ e=>dx)
theorem Qah.far{B:Nat}{w:World}{ao:Option Addr}{cap:Nat}{zs:List Int}(h:Qah B w ao cap zs){k:Nat}(hk:k<B):Qt ao≠some k:=by
 intro e;cases ao with
 | none=>cases e
 | some ad=>
  have:=(h.lies ad rfl).1;exact fd
theorem Qah.nil_len{B:Nat}{w:World}{ao:Option Addr}{cap:Nat}{zs:List Int}(h:Qah B w ao cap zs):ao=none->zs.length=0/\cap=0:=by
 intro e;have:=h.bare e;have:=h.fits;omega
def Qi(e B:Nat)(w:World)(ao:Option Addr)(cap:Nat)(zs:List Int):Prop:=w.ownsRow B e 1 (.slice ao zs.length cap) zs.length (zs.map (Value.int .u8))
theorem Qi.mine{e B:Nat}{w:World}{ao:Option Addr}{cap:Nat}{zs:List Int}(h:Qi e B w ao cap zs):Qah B w ao cap zs:=by
 obtain ⟨l,K,e',hm⟩:=Qah.of_owns h;simp only [Value.slice.injEq,true_and] at e'
 obtain ⟨rfl,rfl⟩:=e'
 exact hm
theorem Qi.of{e B:Nat}{w:World}{v:Value}{n:Nat}{zs:List Int}(h:w.ownsRow B e 1 v n (zs.map (Value.int .u8))):∃ao cap,v=.slice ao zs.length cap/\Qi e B w ao cap zs:=by
 obtain ⟨ao,cap,rfl,hm⟩:=Qah.of_owns h;refine fD ?_;intro hl;subst hl;exact ⟨ao,cap,rfl,h⟩
theorem Qi.grown{e B:Nat}{w w':World}{row:Option Nat}{ao:Option Addr}{cap:Nat}{zs:List Int}(h:Qi e B w ao cap zs)(hg:w.grownBy w' row)(hne:∀k,row=some k->Qt ao≠some k):Qi e B w' ao cap zs:=mB
theorem Qi.below{e B:Nat}{w w':World}{ao:Option Addr}{cap:Nat}{zs:List Int}(h:Qi e B w ao cap zs)(hb:Below w.heap.size w w'):Qi e B w' ao cap zs:=
 h.grown (Qk hb none) (fun _ e=>dx)
theorem Qi.mono{e B B':Nat}{w:World}{ao:Option Addr}{cap:Nat}{zs:List Int}(h:Qi e B w ao cap zs)(hB:B'<=B):Qi e B' w ao cap zs:=by
 refine ⟨h.1,?_⟩;rcases h.2 with h2|⟨g,c,M,h3,h4,U⟩
 ·exact .inl h2
 ·exact .inr ⟨g,c,M,h3,Nat.le_trans hB h4,U⟩
theorem Q1.news{w:World}{ad:Addr}{zs:List Int}(h:Q1 w (some ad) zs):∀j u,(zs.map (Value.int .u8))[j]?=some u->w.cell? (ad.add j)=some u:=by
 intro j u hu;have hj:j<zs.length:=by
  have:=(List.getElem?_eq_some_iff.1 hu).1;simpa using this
 obtain ⟨b,U,e,I⟩:=h j hj;simp only [Option.some.injEq] at e;subst e;rw [Addr.add_lit,I];simpa [List.getD,hj] using hu
section
variable {P : Program} (w : World)
theorem QfL(base:Nat)(t ty e:TypeId)(i:TypeInfo)(z:Value)(bytes:Nat)(ht:P.underlying t=some (.slice e))(hi:P.info? e=some i)(hz:i.zero=some z)(hsize:i.size=1)(hby:i.bytes=bytes)(hzs:z.cells.size=1)(v:Value)(n:Nat)(xs:List Value)(hown:w.ownsRow base e 1 v n xs)(ao:Option Addr)(c:Nat)(zs:List Int)(hr:Q1 w ao zs)(hnil:ao=none->zs.length=0/\c=0)(h63:n+zs.length<=maxLen)(hbytes:(n+zs.length)*bytes<=140737488355328)(hbase:base<=w.heap.size):
  ∃v' w',(Builtin.append_ #[t,t] ty #[v,.slice ao zs.length c]).run P w=.ok v' w'/\w'.ownsRow base e 1 v' (n+zs.length) (xs++zs.map (Value.int .u8))/\w.grownBy w' v.ownBlock/\
   (v'.ownBlock=v.ownBlock\/v'.ownBlock=some w.heap.size):=by
 cases ao with
 | none=>
  obtain ⟨H,rfl⟩:=hnil rfl;have K:zs=[]:=List.eq_nil_of_length_eq_zero H;subst K;refine ⟨v,w,run_append_owned_none (P:=P) w base t ty e i 1 ht hi v n xs hown,by simpa using hown,World.grownBy.refl _ _,.inl rfl⟩
 | some ad=>
  obtain ⟨v',w',J,h2,h3,_,U⟩:=run_append_own_at (P:=P) w base t ty e i z 1 bytes ht hi hz hsize hby hzs dn v n xs hown ad zs.length c (zs.map (Value.int .u8)) dr hr.news (ints_oneCell _ _) h63 hbytes hbase;exact ⟨v',w',J,h2,h3,U⟩
theorem Qg0{o:Oper}{a:Act}{K:Act->World->Prop}{Q:Exit->Act->World->Prop}(s x:Operand)(t:TypeId)(ho:o.op=.call {callee:=.builtin .append,args:=#[s,x],argTypes:=#[t,t]})(base:Nat)(e:TypeId)(i:TypeInfo)(z:Value)(bytes:Nat)(ht:P.underlying t=some (.slice e))(hi:P.info? e=some i)(hz:i.zero=some z)(hsize:i.size=1)(hby:i.bytes=bytes)(hzs:z.cells.size=1)(v:Value)(n:Nat)(xs:List Value)(hs:a.eval s=v)(hown:w.ownsRow base e 1 v n xs)(ao:Option Addr)(c:Nat)(zs:List Int)(hx:a.eval x=.slice ao zs.length c)(hr:Q1 w ao zs)(hnil:ao=none->zs.length=0/\c=0)(h63:n+zs.length<=maxLen)(hbytes:(n+zs.length)*bytes<=140737488355328)(hbase:base<=w.heap.size)(h:∀v' w',w'.ownsRow base e 1 v' (n+zs.length) (xs++zs.map (Value.int .u8))->w.grownBy w' v.ownBlock->(v'.ownBlock=v.ownBlock\/v'.ownBlock=some w.heap.size)->K (a.put o.dst v') w'):o.wp P a w K Q:=by
 obtain ⟨v',w',hr,h2,h3,h4⟩:=QfL (P:=P) w base t o.type e i z bytes ht hi hz hsize hby hzs v n xs hown ao c zs hr hnil h63 hbytes hbase;unfold Oper.wp execOp;simp only [ho,resolve,invoke,builtin,Sem.run_bind,Sem.run_pure,Result.andThen_ok,List.map_toArray,List.map_cons,List.map_nil,hs,hx,hr];exact h v' w' h2 h3 h4
theorem Qm{ops:Array Oper}{rest:List Oper}{o:Oper}{a:Act}{Q:Exit->Act->World->Prop}(hgd:o.guard=none)(s x:Operand)(t:TypeId)(ho:o.op=.call {callee:=.builtin .append,args:=#[s,x],argTypes:=#[t,t]})(base:Nat)(e:TypeId)(i:TypeInfo)(z:Value)(bytes:Nat)(ht:P.underlying t=some (.slice e))(hi:P.info? e=some i)(hz:i.zero=some z)(hsize:i.size=1)(hby:i.bytes=bytes)(hzs:z.cells.size=1)(v:Value)(n:Nat)(xs:List Value)(hs:a.eval s=v)(hown:w.ownsRow base e 1 v n xs)(ao:Option Addr)(c:Nat)(zs:List Int)(hx:a.eval x=.slice ao zs.length c)(hr:Q1 w ao zs)(hnil:ao=none->zs.length=0/\c=0)(h63:n+zs.length<=maxLen)(hbytes:(n+zs.length)*bytes<=140737488355328)(hbase:base<=w.heap.size)(h:∀v' w',w'.ownsRow base e 1 v' (n+zs.length) (xs++zs.map (Value.int .u8))->w.grownBy w' v.ownBlock->(v'.ownBlock=v.ownBlock\/v'.ownBlock=some w.heap.size)->wpList P ops Q rest (a.put o.dst v') w'):wpList P ops Q (o::rest) a w:=
 wpList_plain hgd fun _ hK=>Qg0 w s x t ho base e i z bytes ht hi hz hsize hby hzs v n xs hs hown ao c zs hx hr hnil h63 hbytes hbase fun v' w' h2 h3 h4=>hK _ _ (h v' w' h2 h3 h4)
end
end
section
variable{zs:List Int}
def bnum:List Int->Nat
 | []=>0
 | z::r=>z.toNat+256*bnum r
theorem Qb1(zs:List Int)(h:Qh zs):bnum zs<256^zs.length:=by
 induction zs with
 | nil=>decide
 | cons z r ih=>
  have J:=h z (List.mem_cons_self);have h2:=ih (fun x hx=>h x (List.mem_cons_of_mem _ hx));simp only [bnum,List.length_cons,Nat.pow_succ];omega
theorem VX(xs ys:List Int):bnum (xs++ys)=bnum xs+256^xs.length*bnum ys:=by
 induction xs with
 | nil=>simp [bnum]
 | cons z r ih=>
  simp only [List.cons_append,bnum,ih,List.length_cons,Nat.pow_succ];rw [Nat.mul_add,<-Nat.mul_assoc,Nat.mul_comm 256 (256^r.length),Nat.add_assoc]
theorem Qh.take(h:Qh zs)(k:Nat):Qh (zs.take k):=fun x hx=>h x (List.mem_of_mem_take hx)
theorem Qh.drop(h:Qh zs)(k:Nat):Qh (zs.drop k):=fun x hx=>h x (List.mem_of_mem_drop hx)
theorem Qc9(zs:List Int)(k:Nat)(h:k<zs.length):bnum (zs.take (k+1))=bnum (zs.take k)+(zs.getD k 0).toNat*256^k:=by
 have e:zs.take (k+1)=zs.take k++[zs.getD k 0]:=gv;rw [e,VX];simp [bnum,Nat.min_eq_left (Nat.le_of_lt h),Nat.mul_comm]
theorem Qlc(k:Nat):(256:Nat)^k=2^(8*k):=by
 rw [Nat.pow_mul]
theorem Qf9(zs:List Int)(k s n:Nat)(h:s+n<=8*k):bnum (zs.take k)/2^s%2^n=bnum zs/2^s%2^n:=by
 have e:bnum zs=bnum (zs.take k)+256^(zs.take k).length*bnum (zs.drop k):=by
  conv=>lhs;rw [<-List.take_append_drop k zs]
  exact VX _ _
 by_cases hk:k<=zs.length
 ·have hl:(zs.take k).length=k:=dS
  rw [e,hl,Qlc,show 8*k=s+(8*k-s) by omega,Nat.pow_add,Nat.mul_assoc,Nat.add_mul_div_left _ _ (Nat.two_pow_pos s),
   show 8*k-s=n+(8*k-s-n) by omega,Nat.pow_add,Nat.mul_assoc,Nat.add_mul_mod_self_left]
 ·rw [List.take_of_length_le dk]
theorem Qo3(zs:List Int)(hz:Qh zs)(j:Nat):(zs.getD (j/8) 0).toNat/2^(j%8)%2=bnum zs/2^j%2:=by
 induction zs generalizing j with
 | nil=>simp [bnum]
 | cons z r ih=>
  have J:=hz z (List.mem_cons_self);have h2:Qh r:=fun x hx=>hz x (List.mem_cons_of_mem _ hx)
  by_cases hj:j<8
  ·have K:j/8=0:=dk
   have e1:j%8=j:=dk;rw [K,e1];have:=Qf9 (z::r) 1 j 1 dk;simp only [List.take_succ_cons,List.take_zero,bnum,Nat.mul_zero,Nat.add_zero,Nat.pow_one] at this;simpa [bnum] using this
  ·obtain ⟨i,rfl⟩:∃i,j=i+8:=⟨j-8,dk⟩
   have K:(i+8)/8=i/8+1:=dk;have e1:(i+8)%8=i%8:=dk;rw [K,e1];have af:z.toNat<256:=dk;have e2:(z.toNat+256*bnum r)/2^(i+8)=bnum r/2^i:=by
    rw [Nat.pow_add,Nat.mul_comm (2^i),<-Nat.div_div_eq_div_mul];congr 1;show (z.toNat+256*bnum r)/256=bnum r;omega
   simp only [bnum];rw [e2,<-ih h2 i];simp [List.getD]
theorem QmJ(M m:Nat):M%2^(m+1)=2*(M/2%2^m)+M%2:=by
 rw [Nat.pow_succ,Nat.mul_comm (2^m) 2,Nat.mod_mul];omega
def field(N s n:Nat):Nat:=N/2^s%2^n
theorem Qko(N s m:Nat):field N s (m+1)=2*field N (s+1) m+N/2^s%2:=by
 unfold field;rw [QmJ,Nat.div_div_eq_div_mul,<-Nat.pow_succ]
theorem Qf5(N s:Nat):field N s 0=0:=by unfold field;rw [Nat.pow_zero,Nat.mod_one]
theorem Q4(N s n:Nat):field N s n<2^n:=Nat.mod_lt _ (Nat.two_pow_pos n)
theorem QcE(m:Nat):((2:Int)^m)=((2^m:Nat):Int):=by simp
theorem Qph(y k:Nat)(x:Int)(hy:y<256^k)(hk:k<=4)(x0:0<=x)(x1:x<=255):bits .or .u64 (y:Int) (IntKind.u64.wrap (x*2^(8*k)))=((y+x.toNat*256^k:Nat):Int):=by
 obtain ⟨X,rfl⟩:=Int.eq_ofNat_of_zero_le x0;rw [Int.toNat_natCast,Qlc] at*;have N:(2:Nat)^(8*k)<=2^32:=Nat.pow_le_pow_right dn dk;have hX:X*2^(8*k)<=255*2^32:=Nat.mul_le_mul dk N;have e:(X:Int)*2^(8*k)=((X*2^(8*k):Nat):Int):=gw;rw [e];have ai:y|||X*2^(8*k)=y+X*2^(8*k):=mH
 generalize X*2^(8*k)=Z at*;have A:IntKind.u64.wrap (Z:Int)=(Z:Int):=dN;rw [A,u64_or_nat y Z dk dk,ai]
theorem Qn2(Y s n:Nat)(hY:Y<18446744073709551616)(hn:n<=32):bits .and .u64 ((Y:Int)/2^s) (IntKind.u64.wrap (IntKind.u64.wrap (2^n)-1))=((field Y s n:Nat):Int):=by
 have e:(Y:Int)/2^s=((Y/2^s:Nat):Int):=gw;have N:(2:Nat)^n<=2^32:=Nat.pow_le_pow_right dn hn;have b:0<(2:Nat)^n:=Nat.two_pow_pos n;have hd:Y/2^s<=Y:=Nat.div_le_self _ _;unfold field;rw [e,QcE n,<-Nat.and_two_pow_sub_one_eq_mod];generalize (2:Nat)^n=Q at*;have A:IntKind.u64.wrap (IntKind.u64.wrap (Q:Int)-1)=((Q-1:Nat):Int):=by rw [IntKind.wrap_u64,IntKind.wrap_u64];omega
 rw [A,u64_and_nat _ _ dk dk]
end
end Go.Proofs.YtgginbpmebgkcaaGreatDoor
namespace Go.Proofs.YtgginbpmebgkcaaGreatDoor
open Go.RowKit Go.Proofs.Tryz
set_option maxRecDepth 100000
set_option maxHeartbeats 25600000
section
variable{n:Nat}{a u:Int}
def vld(n:Nat)(at_ used:Int):Bool:=
 decide (0<=at_/\at_<=7/\(at_=0\/0<n)/\n<=1000000/\0<=used/\used<=34359738368/\used%8=at_)
theorem Qnh(h:0<=a/\a<=7/\(a=0\/0<n)/\n<=1000000/\0<=u/\u<=34359738368/\u%8=a):true=vld n a u:=(decide_eq_true h).symm
theorem Qdt(h:vld n a u=true):0<=a/\a<=7/\(a=0\/0<n)/\n<=1000000/\0<=u/\u<=34359738368/\u%8=a:=of_decide_eq_true h
end
end Go.Proofs.YtgginbpmebgkcaaGreatDoor
namespace Go.Proofs.YtgginbpmebgkcaaGreatDoor
open Go.RowKit Go.Proofs.Tryz
set_option linter.unusedVariables false
end Go.Proofs.YtgginbpmebgkcaaGreatDoor
namespace Go.Proofs.YtgginbpmebgkcaaGreatDoor
open Go.RowKit
set_option maxRecDepth 100000
set_option maxHeartbeats 25600000
section
variable{w:World}{zs:List Int}{ao:Option Addr}
def Qv(w:World)(ao:Option Addr)(zs:List Int):Prop:=
 ∀i,i<zs.length->∃b off,ao=some ⟨b,off,none⟩/\w.cell? ⟨b,off+i,none⟩=some (.int .i64 (zs.getD i 0))
theorem Qv.at(h:Qv w ao zs){k:Nat}(hk:k<zs.length):
  ∃b off,ao=some ⟨b,off,none⟩/\∀i,i<zs.length->w.cell? ⟨b,off+i,none⟩=some (.int .i64 (zs.getD i 0)):=my
theorem Qv.of{b off:Nat}(h:∀i,i<zs.length->w.cell? ⟨b,off+i,none⟩=some (.int .i64 (zs.getD i 0))):Qv w (some ⟨b,off,none⟩) zs:=
 fun i hi=>⟨b,off,rfl,h i hi⟩
theorem Qv.below{w':World}(h:Qv w ao zs)(hb:Below w.heap.size w w'):Qv w' ao zs:=mz
theorem Qv.owned{base e g n cap:Nat}(h:w.ownsRow base e 1 (.slice (some ⟨g,0,none⟩) n cap) n (zs.map (Value.int .i64))):Qv w (some ⟨g,0,none⟩) zs:=by
 refine fD ?_;intro hl;subst hl;refine Qv.of fun i hi=>?_
 exact mA
end
end Go.Proofs.YtgginbpmebgkcaaGreatDoor
namespace Go.Proofs.YtgginbpmebgkcaaGreatDoor
open Go.RowKit Go.Proofs.Tryz
set_option maxRecDepth 100000
set_option maxHeartbeats 25600000
theorem Tryz.info_i64:(prog.info? 2).map (fun i=>(i.zero,i.size,i.bytes))=some (some (.int .i64 0),1,8):=by kernel_rfl
end Go.Proofs.YtgginbpmebgkcaaGreatDoor
namespace Go.Proofs.YtgginbpmebgkcaaGreatDoor
set_option maxRecDepth 100000
set_option maxHeartbeats 25600000
section
variable{s p c:Nat}{rs t d:List Int}
def lastN(n:Nat)(zs:List Int):List Int:=zs.drop (zs.length-n)
theorem QC(n:Nat)(zs:List Int):(lastN n zs).length=min zs.length n:=by simp [lastN];omega
theorem QaI{n:Nat}{zs:List Int}(h:zs.length<=n):lastN n zs=zs:=by simp [lastN,Nat.sub_eq_zero_of_le h]
theorem QcK(zs:List Int)(k i:Nat):(zs.drop k).getD i 0=zs.getD (k+i) 0:=by simp [List.getD]
theorem Qal(n:Nat)(zs:List Int)(i:Nat):(lastN n zs).getD i 0=zs.getD (zs.length-n+i) 0:=QcK _ _ _
theorem Qbo(a b:List Int)(i:Nat):(a++b).getD i 0=if i<a.length then a.getD i 0 else b.getD (i-a.length) 0:=by
 split
 ·rename_i h;simp [List.getD,List.getElem?_append_left h]
 ·rename_i h;simp [List.getD,List.getElem?_append_right (Nat.le_of_not_lt h)]
theorem Qiv{a b:List Int}(hl:a.length=b.length)(h:∀i,i<a.length->a.getD i 0=b.getD i 0):a=b:=by
 apply List.ext_getElem hl;intro j J h2;have:=h j J;simpa [List.getD,J,h2] using this
theorem Qb7(n:Nat)(a b:List Int):lastN n (lastN n a++b)=lastN n (a++b):=ox
def wr(s x:Nat):Nat:=if x<s then x else x-s
theorem Qnw{x:Nat}(h:x<2*s):x%s=wr s x:=by
 unfold wr;split
 ·exact Nat.mod_eq_of_lt dC
 ·rw [Nat.mod_eq_sub_mod dk,Nat.mod_eq_of_lt dk]
structure VT(rs:List Int)(s p c:Nat)(t:List Int):Prop where
 pos:0<s
 room:s<=rs.length
 place:p<s
 len:t.length=c
 most:c<=s
 young:c<s->p=c
 at_:∀i,i<c->t.getD i 0=rs.getD (wr s (p+s-c+i)) 0
theorem VT.new(rs:List Int)(s:Nat)(h0:0<s)(h:s<=rs.length):VT rs s 0 0 []:=
 ⟨h0,h,h0,rfl,Nat.zero_le _,fun _=>rfl,fun i hi=>absurd hi dk⟩
theorem VT.put{rs':List Int}(h:VT rs s p c t)(hm:d.length<=s)(hl:s<=rs'.length)(hr:∀j,j<s->rs'.getD j 0=if wr s (j+s-p)<d.length then d.getD (wr s (j+s-p)) 0 else rs.getD j 0):
  VT rs' s (wr s (p+d.length)) (min (c+d.length) s) (lastN s (t++d)):=by
 obtain ⟨J,h2,h3,h4,U,h6,h7⟩:=h;refine ⟨J,hl,?_,?_,dk,?_,?_⟩
 ·unfold wr;split<;>omega
 ·rw [QC,List.length_append,h4]
 ·intro I
  have:=h6 dk;unfold wr;split<;>omega
 ·intro i hi
  rw [Qal,Qbo,List.length_append,h4];have hj:wr s (wr s (p+d.length)+s-min (c+d.length) s+i)<s:=jS;rw [hr _ hj];have hx:wr s (wr s (wr s (p+d.length)+s-min (c+d.length) s+i)+s-p)=if c+d.length-s+i<c then (c+d.length-s+i)+s-c else c+d.length-s+i-c:=oy
  rw [hx];by_cases hk:c+d.length-s+i<c
  ·rw [if_pos hk,if_pos hk,if_neg dk,h7 _ hk]
   congr 1;exact oy
  ·rw [if_neg hk,if_neg hk,if_pos dk]
theorem VT.one(h:VT rs s p c t)(x:Int):VT (rs.set p x) s (wr s (p+1)) (min (c+1) s) (lastN s (t++[x])):=by
 have h3:=h.place;have h2:=h.room;refine h.put (d:=[x]) (by have:=h.pos;simp;omega) jx ?_;intro j hj;by_cases e:j=p
 ·subst e
  have:wr s (j+s-j)=0:=eN;rw [this];have:j<rs.length:=dk;simp [List.getD,this]
 ·have:¬wr s (j+s-p)<1:=eN
  have e':¬p=j:=fun h=>e h.symm
  simp [List.getD,this,e']
theorem VT.back(h:VT rs s p c t){dist:Nat}(h0:1<=dist)(h1:dist<=c):rs.getD (wr s (p+s-dist)) 0=t.getD (c-dist) 0:=by
 have:=h.most;rw [h.at_ _ dk];congr 2;omega
theorem Qev(L:List Int)(o:Nat)(cs:List Int)(h:o+cs.length<=L.length)(j:Nat):(splice L o cs).getD j 0=if o<=j/\j<o+cs.length then cs.getD (j-o) 0 else L.getD j 0:=by
 unfold splice;rw [Qbo,Qbo];simp only [List.length_take];by_cases J:j<o
 ·rw [if_pos dk,if_neg dk]
  simp [List.getD,J]
 ·rw [if_neg dk]
  by_cases h2:j<o+cs.length
  ·rw [if_pos dk,if_pos ⟨dk,h2⟩]
   congr 1;omega
  ·rw [if_neg dk,if_neg dk,QcK]
   congr 1;omega
theorem VT.copies(h:VT rs s p c t)(hm:d.length<=s):
  VT (splice (splice rs p (d.take (s-p))) 0 (d.drop (s-p))) s (wr s (p+d.length)) (min (c+d.length) s) (lastN s (t++d)):=by
 have h2:=h.room;have h3:=h.place;have X:p+(d.take (s-p)).length<=rs.length:=du;have e1:=length_splice rs p (d.take (s-p)) X;have S:0+(d.drop (s-p)).length<=(splice rs p (d.take (s-p))).length:=by rw [e1];simp;omega
 refine h.put hm (by rw [length_splice _ _ _ S,e1];exact h2) ?_;intro j hj;rw [Qev _ _ _ S,Qev _ _ _ X];simp only [List.length_take,List.length_drop];by_cases a:j<d.length-(s-p)
 ·rw [if_pos ⟨Nat.zero_le _,dk⟩,if_pos eN,QcK]
  congr 1;unfold wr;split<;>omega
 ·rw [if_neg dk]
  by_cases b:p<=j/\j<p+min (s-p) d.length
  ·rw [if_pos b,if_pos eN]
   have e:wr s (j+s-p)=j-p:=eN;rw [e];simp [List.getD,(by omega:j-p<s-p)]
  ·rw [if_neg b,if_neg eN]
def QM(all:List Int)(dist:Nat):Nat->List Int
 | 0=>all
 | n+1=>QM all dist n++[(QM all dist n).getD ((QM all dist n).length-dist) 0]
theorem VV(all:List Int)(dist n:Nat):(QM all dist n).length=all.length+n:=by
 induction n with
 | zero=>rfl
 | succ n ih=>simp [QM,ih];omega
theorem Qrl(all:List Int)(dist n:Nat):(QM all dist n).take all.length=all:=by
 induction n with
 | zero=>simp [QM]
 | succ n ih=>
  rw [QM,List.take_append_of_le_length gU,ih]
def VG(all:List Int)(dist n:Nat):List Int:=(QM all dist n).drop all.length
theorem Qam(all:List Int)(dist n:Nat):(VG all dist n).length=n:=by simp [VG,VV]
theorem Qde(all:List Int)(dist n:Nat):VG all dist (n+1)=VG all dist n++[(QM all dist n).getD ((QM all dist n).length-dist) 0]:=by
 unfold VG;rw [QM,List.drop_append_of_le_length gU]
theorem QlR(s:Nat)(a:List Int)(dist:Nat)(h1:dist<=s)(h2:dist<=a.length):(lastN s a).getD ((lastN s a).length-dist) 0=a.getD (a.length-dist) 0:=by
 rw [Qal,QC];congr 1;omega
end
end Go.Proofs.YtgginbpmebgkcaaGreatDoor
namespace Go.Proofs.YtgginbpmebgkcaaGreatDoor
open Go.RowKit Go.Proofs.Tryz
set_option maxRecDepth 100000
set_option maxHeartbeats 25600000
theorem Tryz.info_u8:(prog.info? 5).map (fun i=>(i.zero,i.size,i.bytes))=some (some (.int .u8 0),1,1):=by kernel_rfl
end Go.Proofs.YtgginbpmebgkcaaGreatDoor
namespace Go.Proofs.YtgginbpmebgkcaaGreatDoor
open Go.RowKit Go.Proofs.Tryz
attribute [local go_sem ↓] Go.wp_at_zero Go.wp_at_succ
set_option linter.unusedVariables false
set_option maxRecDepth 100000
set_option maxHeartbeats 25600000
theorem QZ{p:Prop}(h:p):dm p:=h
section
variable{w w':World}{g off i:Nat}{rs zs:List Int}{s p c:Int}{ao:Option Addr}{L:List Value}{t:TypeId}
theorem QqO(L:List Value)(a b c:Value)(n:Nat)(h:L.length=n):(L++[a,b,c])[n]?=some a:=by subst h;simp
theorem Qql(L:List Value)(a b c:Value)(n:Nat)(h:L.length=n):(L++[a,b,c])[n+1]?=some b:=by subst h;simp
theorem Qqp(L:List Value)(a b c:Value)(n:Nat)(h:L.length=n):(L++[a,b,c])[n+2]?=some c:=by subst h;simp
theorem QlS(L:List Value)(a b c d:Value)(n:Nat)(h:L.length=n):(L++[a,b,c]).set (n+1) d=L++[a,d,c]:=by subst h;rw [List.set_append_right _ _ dk];simp
theorem Qmw(L:List Value)(a b c d:Value)(n:Nat)(h:L.length=n):(L++[a,b,c]).set (n+2) d=L++[a,b,d]:=by subst h;rw [List.set_append_right _ _ dk];simp
structure Q6(w:World)(g:Nat)(rs:List Int)(s p c:Int):Prop where
 heap:w.heap[g]?=some (.cells (rs.map (Value.int .u8)++[Value.int .i64 s,Value.int .i64 p,Value.int .i64 c]).toArray 255 (0,0))
 len:rs.length=32768
theorem Qbe{v:Value}(h:w.heap[g]?=some (.cells L.toArray t (0,0)))(hv:L[off]?=some v):w.cell? ⟨g,off,none⟩=some v:=by
 simp [World.cell?,h,hv]
theorem QfT(h:w.heap[g]?=some (.cells L.toArray t (0,0))):w.frozen? ⟨g,off,none⟩=false:=by
 simp [World.frozen?,h]
theorem QfK(v:Value)(h:w.heap[g]?=some (.cells L.toArray t (0,0))):(w.setCell ⟨g,off,none⟩ v).heap[g]?=some (.cells (L.set off v).toArray t (0,0)):=by
 rw [setCell_eq_setRow w g off L.toArray t (0,0) v h,setRow_heap w g _ _ t _ h];simp
theorem Q6.lt(h:Q6 w g rs s p c):g<w.heap.size:=(Array.getElem?_eq_some_iff.1 h.heap).1
theorem Q6.three(h:Q6 w g rs s p c):
  w.cell? ⟨g,32768,none⟩=some (.int .i64 s)/\w.cell? ⟨g,32769,none⟩=some (.int .i64 p)/\w.cell? ⟨g,32770,none⟩=some (.int .i64 c)/\∀off,w.frozen? ⟨g,off,none⟩=false:=by
 refine jT ?_;intro hl;exact ⟨Qbe h.heap (QqO _ _ _ _ _ hl),Qbe h.heap (Qql _ _ _ _ _ hl),Qbe h.heap (Qqp _ _ _ _ _ hl),fun off=>QfT h.heap⟩
theorem Q6.byte(h:Q6 w g rs s p c)(hi:i<rs.length):w.cell? ⟨g,i,none⟩=some (.int .u8 (rs.getD i 0)):=by
 refine Qbe h.heap ?_;rw [List.getElem?_append_left (by simpa using hi)];simp [List.getD,hi]
theorem Q6.setByte(h:Q6 w g rs s p c)(hi:i<rs.length)(x:Int):Q6 (w.setCell ⟨g,i,none⟩ (.int .u8 x)) g (rs.set i x) s p c:=by
 refine ⟨?_,by rw [List.length_set];exact h.len⟩;rw [QfK _ h.heap,List.set_append_left _ _ (by simpa using hi),List.map_set]
theorem Q6.setP(h:Q6 w g rs s p c)(x:Int):Q6 (w.setCell ⟨g,32769,none⟩ (.int .i64 x)) g rs s x c:=by
 refine jT ?_;intro hl;refine ⟨?_,h.len⟩;rw [QfK _ h.heap,QlS _ _ _ _ _ 32768 hl]
theorem Q6.setC(h:Q6 w g rs s p c)(x:Int):Q6 (w.setCell ⟨g,32770,none⟩ (.int .i64 x)) g rs s p x:=by
 refine jT ?_;intro hl;refine ⟨?_,h.len⟩;rw [QfK _ h.heap,Qmw _ _ _ _ _ 32768 hl]
theorem Q6.grown{row:Option Nat}(h:Q6 w g rs s p c)(hg:w.grownBy w' row)(hne:some g≠row):Q6 w' g rs s p c:=
 ⟨(hg.block g h.lt hne).trans h.heap,h.len⟩
theorem Q6.drewN(h:Q6 w g rs s p c)(k:Nat):Q6 (w.drewN k) g rs s p c:=⟨h.heap,h.len⟩
theorem QfX(w:World)(g:Nat)(x y:Value):w.grownBy ((w.setCell ⟨g,32769,none⟩ x).setCell ⟨g,32770,none⟩ y).drew.drew (some g):=by
 have h:=Qj (Qf w ⟨g,32769,none⟩ x) (Qf _ ⟨g,32770,none⟩ y);exact ⟨h.os,h.tape,h.output,h.size,h.block⟩
theorem Qdh(g:Nat)(rs:List Int)(s p c m:Nat)(w:World)(h:Q6 w g rs s p c)(hs0:0<s)(hs:s<=32768)(hp:p<s)(hc:c<=s)(hm:m<=s):
  Calls prog 196 #[.pointer (some ⟨g,0,none⟩),.int .i64 m] w fun e w'=>e=.returned (.tuple #[])/\Q6 w' g rs s (wr s (p+m):Nat) (min (c+m) s:Nat)/\w.grownBy w' (some g)/\w'.heap.size=w.heap.size:=by
 obtain ⟨C,c1,c2,G⟩:=h.three;have f1:=G 32769;have f2:=G 32770;have hq:((p:Int)+(m:Int)).tmod (s:Int)=((wr s (p+m):Nat):Int):=by
  rw [<-Qnw dk,<-Int.natCast_add,<-Int.ofNat_tmod]
 have R2:=QZ<|(h.setP ((wr s (p+m):Nat):Int)).setC ((min (c+m) s:Nat):Int)
 go_enter func196,ntmps196;clear G;go_wp2;go_region
 go_wp2;go_region
 go_wp2
 ·go_end0
  refine ⟨rfl,?_,?_,dr⟩
  ·have P:=R2.u
   rw [Nat.min_eq_right dk] at P ⊢;exact (P.drewN 1).drewN 1
  ·exact QfX _ _ _ _
 ·go_end0
  refine ⟨rfl,?_,?_,dr⟩
  ·have P:=R2.u
   rw [Nat.min_eq_left dk,Int.natCast_add] at P;rw [Nat.min_eq_left dk,Int.natCast_add];exact (P.drewN 1).drewN 1
  ·exact QfX _ _ _ _
theorem QgG(n:Nat)(a b:List Int):lastN n (a++lastN n b)=lastN n (a++b):=ox
theorem Q1.last(h:Q1 w ao zs){k:Nat}(hk:0<k):Q1 w (ao.map (·.add k)) (zs.drop k):=by
 intro i hi;rw [List.length_drop] at hi;obtain ⟨b,U,rfl,I⟩:=h (k+i) dk;refine ⟨b,U+k,jk,?_⟩;rw [Nat.add_assoc,I];simp [List.getD]
theorem Tryz.size_u8:(prog.info? 5).map (·.size)=some 1:=by kernel_rfl
theorem Q1.take(h:Q1 w ao zs)(k:Nat):Q1 w ao (zs.take k):=by
 intro i hi;simp only [List.length_take] at hi;obtain ⟨b,U,e,I⟩:=h i dk;refine ⟨b,U,e,?_⟩;rw [I];simp [List.getD,(by omega:i<k)]
theorem Q1.first(h:Q1 w ao zs)(h0:0<zs.length):∃ad,ao=some ad/\∀j v,(zs.map (Value.int .u8))[j]?=some v->w.cell? (ad.add j)=some v:=by
 obtain ⟨b,U,rfl,_⟩:=h 0 h0;exact ⟨_,rfl,h.news⟩
theorem Q1.under(h:Q1 w ao zs)(hb:Below g w w')(hl:∀ad,ao=some ad->ad.block<g):Q1 w' ao zs:=by
 intro i hi;obtain ⟨b,U,rfl,I⟩:=h i hi;exact ⟨b,U,rfl,by rw [hb.cell (p:=⟨b,U+i,none⟩) (hl ⟨b,U,none⟩ rfl)];exact I⟩
theorem QkD(rs d:List Int)(T:List Value)(p:Nat)(h:p+d.length<=rs.length):splice (rs.map (Value.int .u8)++T) p (d.map (Value.int .u8))=(splice rs p d).map (Value.int .u8)++T:=by
 unfold splice;rw [List.take_append_of_le_length (by rw [List.length_map];omega),List.length_map,List.drop_append_of_le_length (by rw [List.length_map];omega)];simp [List.map_take,List.map_drop]
theorem Qbz{d:List Int}{o:Nat}(h:Q6 w g rs s p c)(hf:o+d.length<=32768)(hh:w'.heap[g]?=some (.cells (splice (rs.map (Value.int .u8)++[Value.int .i64 s,Value.int .i64 p,Value.int .i64 c]) o (d.map (Value.int .u8))).toArray 255 (0,0))):Q6 w' g (splice rs o d) s p c:=by
 have hl:=h.len;rw [QkD _ _ _ _ dk] at hh;exact ⟨hh,by rw [length_splice _ _ _ dk];exact hl⟩
theorem QkP(ao:Option Addr)(D:List Int)(cap k:Nat)(hk:k<=D.length)(hf:D.length<=cap):
  ∃ao2,(if cap=k then ao else ao.map (fun x=>x.add k))=ao2/\(∀W:World,(Instr.slice 22 (.slice ao D.length cap) (some (.int .i64 k)) none none).run prog W=.ok (.slice ao2 (D.length-k) (cap-k)) W)/\∀w:World,Q1 w ao D->Q1 w ao2 (D.drop k):=by
 refine ei ?_;intro i0 hi af ak aq;refine ⟨if cap=k then ao else ao.map (·.add k),rfl,?_,?_⟩
 ·intro W
  have a:prog.elem 22=5:=dD;rw [run_slice_any (P:=prog) W _ _ _ _ dD,a];simp [Instr.sliceBounds,run_sliceBound,sizeOf,typeInfo,hi,ak,sliced,hk]
 ·intro w y
  split
  ·rename_i e
   intro i hi;rw [List.length_drop] at hi;omega
  ·rcases Nat.eq_zero_or_pos k with rfl|H
   ·intro i hi
    simp only [List.drop_zero] at hi ⊢;obtain ⟨b,U,rfl,I⟩:=y i hi;exact ⟨b,U,jk,I⟩
   ·exact y.last H
theorem Tryz.arr_room:prog.underlying 253=some (.array (prog.arrayLen 253) (prog.elem 253))/\prog.arrayLen 253=32768/\prog.elem 253=5:=⟨dD,dD,dD⟩
theorem Qex(g p s:Nat)(hp:p<s)(hs:s<=32768)(W:World):(Instr.sliceAt 253 (.pointer (some ⟨g,0,none⟩)) (some (.int .i64 p)) (some (.int .i64 s)) none).run prog W=.ok (.slice (some ⟨g,p,none⟩) (s-p) (32768-p)) W:=by
 refine ei ?_;intro i0 hi af ak aq;obtain ⟨a1,a2,q⟩:=Tryz.arr_room;rw [run_sliceAt_array_lh (P:=prog) W _ _ a1 _ _ _ _ dk dk (by rw [a2];omega),a2,q];have an:¬32768=p:=dk;simp [sizeOf,typeInfo,hi,ak,slicedAt,Addr.add_lit,an]
theorem QpH(g:Nat)(W:World):(Instr.sliceAt 253 (.pointer (some ⟨g,0,none⟩)) none none none).run prog W=.ok (.slice (some ⟨g,0,none⟩) 32768 32768) W:=by
 refine ei ?_;intro i0 hi af ak aq;obtain ⟨a1,a2,q⟩:=Tryz.arr_room;rw [run_sliceAt_array_all (P:=prog) W _ _ a1,a2,q];simp [sizeOf,typeInfo,hi,ak,slicedAt,Addr.add_lit]
theorem Qoz(g:Nat)(rs:List Int)(s p c:Nat)(t d:List Int)(ao:Option Addr)(cap:Nat)(w:World)(h:Q6 w g rs s p c)(hI:VT rs s p c t)(hs:s<=32768)(hr:Q1 w ao d)(hf:d.length<=cap)(hcap:cap<=maxLen)(hb:∀ad,ao=some ad->ad.block<g):
  Calls prog 186 #[.pointer (some ⟨g,0,none⟩),.slice ao d.length cap] w fun e w'=>e=.returned (.tuple #[])/\(∃rs' p' c',Q6 w' g rs' s (p':Nat) (c':Nat)/\VT rs' s p' c' (lastN s (t++d)))/\Below g w w':=by
 obtain ⟨C,c1,c2,G⟩:=h.three;have HR:=QZ hr;have P:=QZ hI;have b:=QZ h;have N:=hI.place;have E:=hI.pos;have X:=h.lt;unfold maxLen at hcap;clear hr h hI G;go_enter func186,ntmps186;go_upto_region 0 with fail;go_cut [1] from 5 to 14 (fun v wx=>∃l K,v=.slice l (lastN s d).length K/\Q1 wx l (lastN s d)/\wx=w/\(lastN s d).length<=K/\K<=9223372036854775807/\∀ad,l=some ad->ad.block<g)
 case first=>
  go_wp2_with fail
  ·have e:lastN s d=d:=QaI dk
   go_meet;exact ⟨ao,0,fa,by rw [e];exact HR.out,rfl,gV,dk,hb⟩
  ·have e:lastN s d=d.drop (d.length-s):=rfl
   have O:(lastN s d).length=d.length-(d.length-s):=by rw [e,List.length_drop]
   go_meet;refine ⟨_,_,by rw [O],HR.out.last dk,rfl,dk,dk,?_⟩;exact oz
  ·have e:lastN s d=d:=QaI dk
   go_meet;exact ⟨ao,cap,fa,by rw [e];exact HR.out,rfl,gV,dk,hb⟩
 case rest=>
  obtain ⟨l,K,rfl,L,A,B,S,f⟩:=hcut;have o:=A.symm;subst o;clear hb HR hf hcap;have r:(lastN s d).length<=s:=fh;have HT:=QZ<|QgG s t d
  generalize hD:lastN s d=D at*;clear hD;have HR:=QZ L;clear L;refine oA ?_;intro X1 Z k hk y au W Q M HK;clear Q hk;have q:=QZ Z;clear Z;have R:=Qex g p s N hs w.drew;have P1:Hid (0<X1.length->some (⟨g,p,none⟩:Addr)=some ⟨g,p,none⟩/\∃ad,l=some ad/\∀j v,X1[j]?=some v->w.drew.cell? (ad.add j)=some v):=by
   intro H;refine ⟨rfl,?_⟩;rw [q.out] at H ⊢;exact (HR.out.take (s-p)).first gW
  have P2:Hid (p+X1.length<=(rs.map (Value.int .u8)++[Value.int .i64 s,Value.int .i64 p,Value.int .i64 c]).length):=by
   show _<=_;rw [List.length_append,List.length_map,b.out.len];simp;omega
  have z:Hid (∀v∈X1,v.oneCell'=true):=by
   show ∀v∈X1,v.oneCell'=true;rw [q.out];exact ints_oneCell _ _
  go_upto_region 1 with fail;go_cut [4] from 15 to 28 (fun v wx=>v=.int .i64 (k:Nat)/\Q6 wx g (splice rs p (D.take (s-p))) s p c/\Below g w wx)
  case first=>
   go_region_law (refine step_copy_splice rfl (.tmp 26) (.tmp 27) 22 22 rfl 5 underlying22 Tryz.size_u8 (some ⟨g,p,none⟩) l (s-p) (32768-p) D.length K eh eh g p _ 255 b.out.heap X1 (by rw [y];exact HK.out.trans (Nat.min_comm _ _)) P1.out P2.out z.out g w (Below.refl _ _).drew (Nat.le_refl _) ?_;intro w4 F T)
   all_goals
    have h4:Q6 w4 g (splice rs p (D.take (s-p))) s p c:=Qbz b.out du (by have e:=F.out;rw [q.out] at e;exact e);go_wp2_with fail;go_meet;exact ⟨rfl,h4,T⟩
  case rest=>
  obtain ⟨rfl,h4,T⟩:=hcut;obtain ⟨w4,aC⟩:∃x,x=wc:=⟨_,rfl⟩;subst aC;have n:=QZ h4;clear R P1 P2 z C c1 c2 q y h4 b;have V:=QZ<|P.out.copies r
  have aT:=QZ<|Q1.under HR.out T f
  obtain ⟨a3,hE,I,a⟩:=QkP l D K k W B;obtain ⟨X2,ab⟩:∃X2,X2=(D.drop (s-p)).map (Value.int .u8):=⟨_,rfl⟩;have m:X2.length=D.length-k:=by rw [ab,List.length_map,<-M.out,List.length_drop]
  have a1:=QZ ab;have J:=QZ<|a w4 aT.out
  clear ab I a;have P1:Hid (0<X2.length->some (⟨g,0,none⟩:Addr)=some ⟨g,0,none⟩/\∃ad,a3=some ad/\∀j v,X2[j]?=some v->w4.drew.cell? (ad.add j)=some v):=by
   intro H;refine ⟨rfl,?_⟩;rw [a1.out,<-M.out] at H ⊢;exact J.out.first gW
  have P2:Hid (0+X2.length<=((splice rs p (D.take (s-p))).map (Value.int .u8)++[Value.int .i64 s,Value.int .i64 p,Value.int .i64 c]).length):=by
   show _<=_;rw [List.length_append,List.length_map,n.out.len,m];simp;omega
  have z:Hid (∀v∈X2,v.oneCell'=true):=by
   show ∀v∈X2,v.oneCell'=true;rw [a1.out];exact ints_oneCell _ _
  go_upto_region 2 with fail;go_cut [4] from 29 to 36 (fun v wx=>v=.int .i64 (k:Nat)/\Q6 wx g (splice (splice rs p (D.take (s-p))) 0 (D.drop (s-p))) s p c/\Below g w wx)
  case first=>
   go_region_law (refine step_copy_splice rfl (.tmp 32) (.tmp 35) 22 22 rfl 5 underlying22 Tryz.size_u8 (some ⟨g,0,none⟩) a3 32768 32768 (D.length-k) (K-k) gX gX g 0 _ 255 n.out.heap X2 oB P1.out P2.out z.out g w T.drew (Nat.le_refl _) ?_;intro w5 Y az)
   all_goals
    have U:Q6 w5 g (splice (splice rs p (D.take (s-p))) 0 (D.drop (s-p))) s p c:=Qbz n.out du (by have e:=Y.out;rw [a1.out] at e;exact e);go_wp2_with fail;go_meet;exact ⟨rfl,U,az⟩
  case rest=>
  obtain ⟨rfl,U,az⟩:=hcut;have an:=P.out.most;have HM:=QZ<|Qdh g _ s p c D.length wc U E hs N an r
  clear U P1 P2 z a1 m hE;go_wp2_with fail;refine Calls.mono HM.out ?_;rintro e w6 ⟨rfl,h6,i,aa⟩;go_wp2_with fail;go_end0;refine ⟨rfl,⟨_,_,_,h6,?_⟩,?_⟩
  ·rw [<-HT.out]
   exact V.out
  ·exact az.trans ⟨i.os,i.tape,i.output,i.size,fun k hk=>i.block k (by have:=az.size;omega) du⟩
end
section
set_option maxRecDepth 10000000
theorem Tryz.zero_ring:zeroCells255=((List.replicate 32768 (Value.int .u8 0))++[Value.int .i64 0,Value.int .i64 0,Value.int .i64 0]).toArray:=by kernel_rfl
theorem Qm6(L:List Value)(a b c d:Value)(n:Nat)(h:L.length=n):(L++[a,b,c]).set n d=L++[d,b,c]:=by subst h;rw [List.set_append_right _ _ dk];simp
theorem Qkz(s:Int):zeroCells255.setIfInBounds 32768 (.int .i64 s)=((List.replicate 32768 (0:Int)).map (Value.int .u8)++[Value.int .i64 s,Value.int .i64 0,Value.int .i64 0]).toArray:=by
 rw [Tryz.zero_ring];have hL:(List.replicate 32768 (Value.int .u8 0)).length=32768:=List.length_replicate;rw [List.map_replicate];generalize List.replicate 32768 (Value.int .u8 0)=L at*;have e:=Qm6 L (.int .i64 0) (.int .i64 0) (.int .i64 0) (.int .i64 s) 32768 hL;rw [List.setIfInBounds_toArray,e]
theorem QkG(w:World)(o:Obj):(w.alloc o).heap[w.heap.size]?=some o:=by
 show (w.heap.push o)[w.heap.size]?=some o;simp
theorem Qeo(s:Nat)(d:List Int)(ao:Option Addr)(cap:Nat)(w:World)(hs0:0<s)(hs:s<=32768)(hr:Q1 w ao d)(hf:d.length<=cap)(hcap:cap<=maxLen)(hb:∀ad,ao=some ad->ad.block<w.heap.size):
  Calls prog 154 #[.int .i64 s,.slice ao d.length cap] w fun e w'=>∃g,e=.returned (.pointer (some ⟨g,0,none⟩))/\w.heap.size<=g/\g<w'.heap.size/\(∃rs' p' c',Q6 w' g rs' s (p':Nat) (c':Nat)/\VT rs' s p' c' (lastN s d))/\Below g w w':=by
 have r:=Qkz s;have hL:(List.replicate 32768 (0:Int)).length=32768:=List.length_replicate;generalize List.replicate 32768 (0:Int)=L at*;have H:Q6 (w.alloc (.cells (L.map (Value.int .u8)++[Value.int .i64 s,Value.int .i64 0,Value.int .i64 0]).toArray 255)) w.heap.size L s (0:Nat) (0:Nat):=⟨QkG _ _,hL⟩;have al:Below w.heap.size w (w.alloc (.cells (L.map (Value.int .u8)++[Value.int .i64 s,Value.int .i64 0,Value.int .i64 0]).toArray 255)):=(Below.refl _ _).alloc (Nat.le_refl _) _;have HP:=QZ<|Qoz w.heap.size L s 0 0 [] d ao cap _ H (VT.new L s hs0 dk) hs (hr.below al) hf hcap hb
 generalize hZ:L.map (Value.int .u8)++[Value.int .i64 s,Value.int .i64 0,Value.int .i64 0]=Z at*;have f:=QZ r;clear hZ hr H hL r;go_enter func154,ntmps154;go_wp2_with fail;rw [f.u];refine Calls.mono HP.u ?_;rintro e w1 ⟨rfl,⟨rs',p',c',aq,aG⟩,aj⟩;go_wp2_with fail;go_ret;exact ⟨w.heap.size,rfl,Nat.le_refl _,aq.lt,⟨rs',p',c',aq,aG⟩,al.trans aj⟩
end
section
variable{w:World}{zs:List Int}
theorem Q1.dropped{b off:Nat}(h:Q1 w (some ⟨b,off,none⟩) zs)(k:Nat):Q1 w (some ⟨b,off+k,none⟩) (zs.drop k):=by
 intro i hi;rw [List.length_drop] at hi;obtain ⟨c,a,e,I⟩:=h (k+i) dk;simp only [Option.some.injEq,Addr.mk.injEq,and_true] at e;obtain ⟨rfl,rfl⟩:=e;refine ⟨b,off+k,rfl,?_⟩;rw [Nat.add_assoc,I];simp [List.getD]
theorem Q1.taken{ao:Option Addr}(h:Q1 w ao zs)(k:Nat):Q1 w ao (zs.take k):=nW
def Qsi(w w':World)(zs:List Int)(e:Ending):Prop:=∃ao cap,e=.returned (.slice ao zs.length cap)/\w'.ownsRow w.heap.size 5 1 (.slice ao zs.length cap) zs.length (zs.map (Value.int .u8))/\Below w.heap.size w w'
end
section
variable{B:Nat}{w:World}{ao:Option Addr}{zs:List Int}
theorem QA(ao:Option Addr)(n cap:Nat):(Value.slice ao n cap).ownBlock=Qt ao:=by cases ao<;>rfl
theorem Qi.base{e:Nat}{cap:Nat}(h:Qi e B w ao cap zs):∀g,Qt ao=some g->B<=g:=by
 intro g e;rcases Nat.lt_or_ge g B with J|J
 ·exact absurd e (h.mine.far J)
 ·exact J
theorem Q1.beneath{w':World}(h:Q1 w ao zs)(hb:Below B w w')(hl:∀ad,ao=some ad->0<zs.length->ad.block<B):Q1 w' ao zs:=by
 intro i hi;obtain ⟨b,U,rfl,I⟩:=h i hi;exact ⟨b,U,rfl,by rw [hb.cell (p:=⟨b,U+i,none⟩) (hl ⟨b,U,none⟩ rfl dk)];exact I⟩
end
end Go.Proofs.YtgginbpmebgkcaaGreatDoor
namespace Go.Proofs.YtgginbpmebgkcaaGreatDoor
open Go.RowKit Go.Proofs.Tryz
set_option linter.unusedVariables false
set_option maxRecDepth 100000
set_option maxHeartbeats 25600000
section
variable{L M:List Nat}
def Qc0(out:List Int)(i b:Nat):List Int:=if i%8=0 then out++[(b:Int)] else out.set (i/8) (out.getD (i/8) 0+((b*2^(i%8):Nat):Int))
def pkS(L:List Nat):List Int×Nat:=L.foldl (fun s b=>(Qc0 s.1 s.2 b,s.2+1)) ([],0)
def pk(L:List Nat):List Int:=(pkS L).1
theorem Qid(L:List Nat)(b:Nat):pkS (L++[b])=(Qc0 (pkS L).1 (pkS L).2 b,(pkS L).2+1):=by
 unfold pkS;rw [List.foldl_append];rfl
theorem Qcy{P:List Nat->Prop}(h0:P [])(h1:∀L b,P L->P (L++[b])):∀L,P L:=by
 intro L;have:∀n (L:List Nat),L.length=n->P L:=by
  intro n;induction n with
  | zero=>intro L h;rw [List.length_eq_zero_iff.1 h];exact h0
  | succ n ih=>
   intro L h;have an:L≠[]:=by intro e;rw [e] at h;simp at h
   rw [<-List.dropLast_concat_getLast an];exact h1 _ _ (ih _ du)
 exact this _ L rfl
theorem Qpi(L:List Nat):(pkS L).2=L.length:=by
 refine Qcy (P:=fun L=>(pkS L).2=L.length) rfl ?_ L;intro L b ih;rw [Qid,List.length_append];show (pkS L).2+1=_;rw [ih];rfl
theorem QnI:pk []=[]:=rfl
theorem Qb6(L:List Nat)(b:Nat):pk (L++[b])=Qc0 (pk L) L.length b:=by
 unfold pk;rw [Qid,Qpi]
theorem QaB(L:List Nat):(pk L).length=(L.length+7)/8:=by
 refine Qcy (P:=fun L=>(pk L).length=(L.length+7)/8) rfl ?_ L;intro L b ih;rw [Qb6,Qc0];by_cases h:L.length%8=0
 ·rw [if_pos h,List.length_append,ih,List.length_append]
  simp only [List.length_singleton];omega
 ·rw [if_neg h,List.length_set,ih,List.length_append]
  simp only [List.length_singleton];omega
def Bin(L:List Nat):Prop:=∀b∈L,b<=1
theorem Bin.app(h:Bin L)(k:Bin M):Bin (L++M):=fun b hb=>by
 rcases List.mem_append.1 hb with h'|h'
 ·exact h b h'
 ·exact k b h'
theorem Bin.left(h:Bin (L++M)):Bin L:=fun b hb=>h b (List.mem_append_left _ hb)
theorem Qhh(L:List Nat)(hL:Bin L)(h8:¬L.length%8=0):∃x:Nat,(pk L).getD (L.length/8) 0=(x:Int)/\x<2^(L.length%8):=by
 revert hL h8;refine Qcy (P:=fun L=>Bin L->¬L.length%8=0->∃x:Nat,(pk L).getD (L.length/8) 0=(x:Int)/\x<2^(L.length%8)) (fun _ h=>absurd rfl h) ?_ L;intro L b ih hL h8;have hb:b<=1:=hL b dr;have hl:(L++[b]).length=L.length+1:=dr;have aH:=QaB L;rw [hl] at h8 ⊢;rw [Qb6,Qc0];by_cases h:L.length%8=0
 ·rw [if_pos h]
  refine ⟨b,?_,?_⟩
  ·have e:(L.length+1)/8=(pk L).length:=dk
   rw [e];simp [List.getD]
  ·rw [show (L.length+1)%8=1 from dk]
   omega
 ·rw [if_neg h]
  obtain ⟨x,hx,a5⟩:=ih hL.left h;have e:(L.length+1)/8=L.length/8:=dk;have e2:(L.length+1)%8=L.length%8+1:=dk;rw [e,e2,hx];refine ⟨x+b*2^(L.length%8),?_,?_⟩
  ·rw [List.getD,List.getElem?_set_self dk]
   simp
  ·rw [Nat.pow_succ]
   have:b*2^(L.length%8)<=1*2^(L.length%8):=Nat.mul_le_mul_right _ hb;omega
def QV(v n:Nat):List Nat:=(List.range n).map (fun i=>v/2^i%2)
theorem Vx(v n:Nat):(QV v n).length=n:=by simp [QV]
theorem Qc1(v:Nat):QV v 0=[]:=rfl
theorem Qcw(v n:Nat):QV v (n+1)=QV v n++[v/2^n%2]:=by simp [QV,List.range_succ]
theorem Qax(v n:Nat):Bin (QV v n):=by
 intro b hb;simp only [QV,List.mem_map,List.mem_range] at hb;obtain ⟨i,_,rfl⟩:=hb;omega
theorem QnN(r x b:Nat)(hr:r<8)(hb:b<=1)(hx:x<2^r):bits .or .u8 (x:Int) ((b*2^r:Nat):Int)=((x+b*2^r:Nat):Int):=by
 have h:∀(r:Fin 8) (x:Fin 128) (b:Fin 2),x.val<2^r.val->bits .or .u8 (x.val:Int) ((b.val*2^r.val:Nat):Int)=((x.val+b.val*2^r.val:Nat):Int):=eg;have a5:x<128:=Nat.lt_of_lt_of_le hx (Nat.pow_le_pow_right (show 0<2 by decide) (show r<=7 by omega));exact h ⟨r,hr⟩ ⟨x,a5⟩ ⟨b,dk⟩ hx
theorem QoP(n:Nat)(h:n<2^64):bits .and .u64 (n:Int) 1=((n%2:Nat):Int):=by
 rw [u64_and (n:Int) 1 dk dk dk dk];simp
end
end Go.Proofs.YtgginbpmebgkcaaGreatDoor
