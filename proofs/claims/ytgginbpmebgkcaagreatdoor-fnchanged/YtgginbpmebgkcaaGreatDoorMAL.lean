import Derived.Laws.CopyOwn
import Derived.Lib.AppendZeros
import Derived.BigRegion
import Derived.Test.YtgginbpmebgkcaaGreatDoorMAC
import Derived.Test.YtgginbpmebgkcaaGreatDoorMAK
namespace Go.Proofs.YtgginbpmebgkcaaGreatDoor
open Go.RowKit Go.Proofs.Tryz
attribute [local go_sem ↓] Go.wp_at_zero Go.wp_at_succ
set_option linter.unusedVariables false
set_option maxRecDepth 100000
set_option maxHeartbeats 25600000
section
section
variable {P : Program} (w : World)
theorem Qaq{ops:Array Oper}{rest:List Oper}{o:Oper}{a:Act}{Q:Exit->Act->World->Prop}(hgd:o.guard=none)(s x:Operand)(t:TypeId)(ho:o.op=.call {callee:=.builtin .append,args:=#[s,x],argTypes:=#[t,t]})(base:Nat)(e:TypeId)(i:TypeInfo)(z:Value)(size bytes:Nat)(ht:P.underlying t=some (.slice e))(hi:P.info? e=some i)(hz:i.zero=some z)(hsize:i.size=size)(hby:i.bytes=bytes)(hzs:z.cells.size=size)(hsz:0<size)(v:Value)(n:Nat)(xs:List Value)(hs:a.eval s=v)(hown:w.ownsRow base e size v n xs)(ad:Addr)(m c:Nat)(news:List Value)(hx:a.eval x=.slice (some ad) m c)(hl:news.length=m*size)(hnews:∀j u,news[j]?=some u->w.cell? (ad.add j)=some u)(h1:∀u∈news,u.oneCell'=true)(h63:n+m<=maxLen)(hbytes:(n+m)*bytes<=140737488355328)(hbase:base<=w.heap.size)(h:∀v' w',w'.ownsRow base e size v' (n+m) (xs++news)->w.grownBy w' v.ownBlock->wpList P ops Q rest (a.put o.dst v') w'):wpList P ops Q (o::rest) a w:=by
 refine wpList_plain hgd fun K hK=>?_
 obtain ⟨v',w',y,h2,h3,_⟩:=run_append_own_at (P:=P) w base t o.type e i z size bytes ht hi hz hsize hby hzs hsz v n xs hown ad m c news hl hnews h1 h63 hbytes hbase;unfold Oper.wp execOp;simp only [ho,resolve,invoke,builtin,Sem.run_bind,Sem.run_pure,Result.andThen_ok,List.map_toArray,List.map_cons,List.map_nil,hs,hx,y];exact hK _ _ (h v' w' h2 h3)
end
def zc:Nat->List Value
 | 0=>[]
 | k+1=>zc k++[.int .i64 0,.int .u64 0]
theorem QqF(k:Nat):(zc k).length=k*2:=by
 induction k with
 | zero=>rfl
 | succ k ih=>simp [zc,ih];omega
theorem Qro(k j:Nat)(h:j<k*2):(zc k)[j]?=some (if j%2=0 then .int .i64 0 else .int .u64 0):=by
 induction k with
 | zero=>omega
 | succ k ih=>
  have hl:=QqF k;rw [zc];by_cases J:j<k*2
  ·rw [List.getElem?_append_left dk];exact ih J
  ·rw [List.getElem?_append_right dk,hl]
   have h2:j=k*2\/j=k*2+1:=dk;rcases h2 with rfl|rfl
   ·rw [Nat.sub_self,if_pos dk];rfl
   ·rw [show k*2+1-k*2=1 by omega,if_neg dk];rfl
def QdH(zs:List Int)(l i m:Nat):Nat×Nat:=if (zs.getD m 0).toNat<l\/((zs.getD m 0).toNat=l/\m<i) then code zs m else (0,0)
theorem Qms{zs:List Int}{m:Nat}(h:(zs.getD m 0).toNat=0):code zs m=(0,0):=by rw [code,if_pos h]
def Qjb(zs:List Int)(j:Nat):Nat:=if j=0 then 0 else fst (cnt zs) j+cnt zs j
theorem QlT(zs:List Int)(j:Nat):2*Qjb zs j=fst (cnt zs) (j+1):=by
 unfold Qjb;cases j with
 | zero=>rfl
 | succ j=>rw [if_neg dk];rfl
theorem QoT(zs:List Int)(j:Nat)(hj:j<=15)(hn:zs.length<=320):Qjb zs j<=20971840:=by
 unfold Qjb;split
 ·omega
 ·have J:=Qh1 (cnt zs) (fun i=>Nat.le_trans (QcB _ _) hn) j
  have h2:cnt zs j<=320:=Nat.le_trans (QcB _ _) hn;have h3:2^j<=32768:=Nat.le_trans (Nat.pow_le_pow_right dn hj) dn;omega
theorem QbY(ao:Option Addr)(cap:Nat)(zs:List Int)(w:World)(hr:Qv w ao zs)(hn:zs.length<=1048576):
  Calls prog 69 #[.slice ao zs.length cap] w fun e w'=>Qe0 w.heap.size w' e zs/\Below w.heap.size w w':=by
 obtain ⟨i0,hi,af,ak,aq⟩:=info_parts Tryz.info_hc;have al:Below w.heap.size w (w.alloc (.cells #[] 118)):=(Below.refl _ _).alloc (Nat.le_refl _) _;have HS:=Qg<|QdZ ao cap zs _ (hr.below al) hn
 have HR:=Qg hr;have av:=Qg al;have az:(w.alloc (.cells #[] 118)).ownsRow w.heap.size 118 2 (.slice (some ⟨w.heap.size,0,none⟩) 0 0) 0 []:=World.ownsRow_lit w #[] 0 (Nat.le_refl _) dy rfl;have a6:=Qg az;clear hr al az;go_enter func69,ntmps69;go_wp2_with fail;refine Calls.mono HS.u ?_;rintro e w1 ⟨rfl,q,rfl⟩;have o:=Qg<|av.u.trans (Qo _ _ q)
 have p:dm (((w.alloc (.cells #[] 118)).drewN q).ownsRow w.heap.size 118 2 (.slice (some ⟨w.heap.size,0,none⟩) 0 0) 0 []):=a6.u;generalize (w.alloc (.cells #[] 118)).drewN q=w1 at*;clear HS av a6;by_cases A:okB zs=true
 ·have aA:¬hk zs=0:=by
   rw [hk,A,if_pos rfl,Qdx];repeat' split
   all_goals omega
  have aH:(hk zs == 0)=false:=by simp [aA]
  by_cases a0:hk zs=2
  ·have ay:dm (okC zs=false):=by show _=_;simp [okC,a0]
   have aD:(hk zs == 2)=true:=by simp [a0]
   clear a0 aA;exact np
  ·have ay:dm (okC zs=true):=by show _=_;simp [okC,A,a0]
   have aD:(hk zs == 2)=false:=by simp [a0]
   have a4:=Qg (Qcl A).2;have S:=(Qcl A).1;clear a0 aA;go_wp2_with fail;go_loopw [3,5] (fun v i wr=>∃(k g c:Nat),k<=zs.length/\i=.int .i64 k/\v=.slice (some ⟨g,0,none⟩) k c/\wr.ownsRow w.heap.size 118 2 (.slice (some ⟨g,0,none⟩) k c) k (zc k)/\Below w.heap.size w wr) (fun _ i _=>zs.length-(intOf i).toNat)
   case atStart=>exact ⟨0,w.heap.size,0,Nat.zero_le _,rfl,rfl,p.u,o.u⟩
   case round=>
    clear p o;obtain ⟨k,g,c,hk,rfl,rfl,ho,a⟩:=hrel;by_cases ab:k<zs.length
    ·have ad:Below wr.heap.size wr (wr.alloc (.cells #[.int .i64 0,.int .u64 0] 118)):=(Below.refl _ _).alloc (Nat.le_refl _) _
     have an:=Qg<|World.ownsRow.kept ho (Qk ad none) (.inr gH)
     have HN:dm (∀j u,([Value.int .i64 0,Value.int .u64 0]:List Value)[j]?=some u->(wr.alloc (.cells #[.int .i64 0,.int .u64 0] 118)).cell? ((⟨wr.heap.size,0,none⟩:Addr).add j)=some u):=by
      intro j u hu;have hj:j=0\/j=1:=by
       have:=(List.getElem?_eq_some_iff.1 hu).1;simp at this;omega
      rw [Addr.add_lit];rcases hj with rfl|rfl
      ·simp at hu;subst hu;simp [go_sem]
      ·simp at hu;subst hu;simp [go_sem]
     have d:=Qg<|a.alloc a.size (.cells #[.int .i64 0,.int .u64 0] 118)
     have aW:=a.size;have aF:w.heap.size<=g:=nr;clear ad ho a;go_wp2_with (at_builtin;refine Qaq _ rfl _ _ 110 rfl w.heap.size 118 i0 (.agg #[.int .i64 0,.int .u64 0]) 2 16 underlying110 hi af ak aq rfl dn (.slice (some ⟨g,0,none⟩) k c) k (zc k) rfl an.u ⟨wr.heap.size,0,none⟩ 1 1 [.int .i64 0,.int .u64 0] rfl rfl HN.u (by intro u hu;simp at hu;rcases hu with rfl|rfl<;>rfl) dy dk du ?_)
     intro v4 w4 R Q;have x:w4.ownsRow w.heap.size 118 2 v4 (k+1) (zc (k+1)):=R;obtain ⟨g4,c4,V⟩:∃g4 c4,v4=.slice (some ⟨g4,0,none⟩) (k+1) c4:=by
      rcases x.2 with ⟨_,H⟩|⟨g',K,M,y,_⟩
      ·omega
      ·exact ⟨g',K,y⟩
     rw [V] at x ⊢;have T:=d.u.grown Q d.u.size gI;clear R Q V an HN d;go_wp2_with fail;go_roundw
     case rel=>exact ⟨k+1,g4,c4,dk,dw,dw,x,T⟩
     case measure=>simp [intOf];omega
    ·have e:k=zs.length:=dk
     subst e;have F:=(VP.made ho (Qro zs.length)).congr (G:=QdH zs 1 0) (fun m _=>by
      unfold QdH;split
      ·rename_i h;rw [Qms dk]
      ·rfl)
     have aF:w.heap.size<=g:=nr;have L:=Qg F;have O:=Qg a;clear ho F a;go_wp2_with fail;go_loopw [6,7] (fun cd l wx=>∃(j E:Nat),j<=15/\l=.int .i64 ((j+1:Nat):Int)/\cd=.int .i64 E/\dm (E=Qjb zs j)/\VP wx g zs.length (QdH zs (j+1) 0)/\Below w.heap.size w wx) (fun _ l _=>16-(intOf l).toNat)
     case atStart=>exact ⟨0,0,dk,rfl,rfl,(rfl:0=Qjb zs 0),L.u,O.u⟩
     case round=>
      clear L O;obtain ⟨j,E,hj,rfl,rfl,HE,f,a⟩:=hrel;by_cases aI:j<15
      ·have aj:E<=20971840:=by rw [HE.u];exact QoT zs j hj S
       obtain ⟨n,a9⟩:=dt (j+1);have r:2*E=fst (cnt zs) n:=by rw [HE.u,QlT,a9]
       have aC:((j+1:Nat):Int)=(n:Int):=dk;rw [aC];rw [a9] at f;have B:=Qg a9;have a7:=Qg r;have aJ:1<=n:=dk;have aB:n<=15:=dk;have aK:decide ((n:Int)<=15)=true:=decide_eq_true dk;have L:=Qg f;have O:=Qg a;clear aC a9 r f a;go_wp2_with fail;go_loopw [6,8] (fun cd i wy=>∃(k X:Nat),k<=zs.length/\i=.int .i64 k/\cd=.int .i64 X/\dm (X=fst (cnt zs) n+cnt (zs.take k) n)/\VP wy g zs.length (QdH zs n k)/\Below w.heap.size w wy) (fun _ i _=>zs.length-(intOf i).toNat)
       case atStart=>exact ⟨0,2*E,Nat.zero_le _,rfl,dw,(by rw [a7.u];rfl:2*E=fst (cnt zs) n+cnt (zs.take 0) n),L.u,O.u⟩
       case round=>
        clear L O;obtain ⟨k,X,hk,rfl,rfl,HX,f,a⟩:=hrel;have Z:X<=20971840:=by
         have J:=QpN zs k n aB S;rw [nx,if_neg dk,<-HX.u] at J;exact J
        by_cases ab:k<zs.length
        ·obtain ⟨b,U,rfl,I⟩:=HR.u.at ab
         refine jr ?_;intro hb a5;have a2:zs[k]=zs.getD k 0:=by simp [List.getD,ab]
         have hx:=a4.u (zs[k]) (List.getElem_mem ab);rw [a2] at hx;obtain ⟨l,hl⟩:∃l:Nat,zs.getD k 0=l:=⟨(zs.getD k 0).toNat,dk⟩;have aL:(zs.getD k 0).toNat=l:=by rw [hl];rfl
         have P:cnt (zs.take (k+1)) n=cnt (zs.take k) n+if l=n then 1 else 0:=by
          rw [Vg zs k ab,QdE,hl];simp only [Int.ofNat_inj]
         have N:=Qg P;have au:=Qg aL;rw [hl] at a5 hx;clear I a2 hl P aL;by_cases D:l=n
         ·rw [D] at a5
          have ah:=au.u;rw [D] at ah;have a8:=N.u;rw [if_pos D] at a8;clear au N D hx l;have au:=Qg ah;have N:=Qg a8;clear ah a8;have HT:=Qg (fun W=>Qku X n dk aB W);obtain ⟨aa,ag⟩:=f.set ab n (tr X n);have s:=aa.congr (G:=QdH zs n (k+1)) (fun m _=>by
           unfold QdH;by_cases J:m=k
           ·subst J
            rw [if_pos rfl,if_pos (by rw [au.u];omega),code,au.u,if_neg dk,<-HX.u]
           ·rw [if_neg J]
            by_cases h2:(zs.getD m 0).toNat<n\/((zs.getD m 0).toNat=n/\m<k)
            ·rw [if_pos h2,if_pos dk]
            ·rw [if_neg h2,if_neg dk])
          have ae:=a.grown ag a.size (by intro t e;simp at e;omega);have a1:dm (X+1=fst (cnt zs) n+cnt (zs.take (k+1)) n):=by show _=_;rw [N.u,HX.u];omega
          have C:=f.at0 k ab;have c1:=f.at1 k ab;have f0:=f.free<|k*2
          have f1:=f.free<|k*2+1
          obtain ⟨Y,hY⟩:=dt (tr X n);rw [hY] at HT s ae;have a3:=Qg s;have d:=Qg ae;have ax:(k:Int)<(zs.length:Int):=dk;generalize (QdH zs n k k).1=o0 at*;generalize (QdH zs n k k).2=o1 at*;clear aa ag s ae f a HX N au hY;go_wp2_with fail;refine Calls.mono (HT.u _) ?_;rintro e w7 ⟨rfl,rfl⟩;go_wp2_with fail;go_roundw
          case rel=>exact ⟨k+1,X+1,dk,dw,dw,a1,a3.u,d.u⟩
          case measure=>simp [intOf];omega
         ·have s:=f.congr (G:=QdH zs n (k+1)) (fun m _=>by
           unfold QdH;by_cases h2:(zs.getD m 0).toNat<n\/((zs.getD m 0).toNat=n/\m<k)
           ·rw [if_pos h2,if_pos dk]
           ·rw [if_neg h2,if_neg]
            intro h3;rcases h3 with h3|⟨h3,h4⟩
            ·exact h2<|.inl h3
            ·have:m=k:=by
              have:¬m<k:=fun h5=>h2 (.inr ⟨h3,h5⟩)
              omega
             rw [this,au.u] at h3;exact D h3)
          have a1:dm (X=fst (cnt zs) n+cnt (zs.take (k+1)) n):=by show _=_;rw [N.u,if_neg D];exact HX.u
          have aw:((l:Int) == (n:Int))=false:=du;have a3:=Qg s;have d:=Qg a;clear s f a HX N au;go_wp2_with fail;go_roundw
          case rel=>exact ⟨k+1,X,dk,dw,rfl,a1,a3.u,d.u⟩
          case measure=>simp [intOf];omega
        ·have e:k=zs.length:=dk
         have s:=f.congr (G:=QdH zs (j+1+1) 0) (fun m hm=>by
          have:=B.u;unfold QdH;by_cases h2:(zs.getD m 0).toNat<n\/((zs.getD m 0).toNat=n/\m<k)
          ·rw [if_pos h2,if_pos dk]
          ·rw [if_neg h2,if_neg dk])
         have ai:dm (X=Qjb zs (j+1)):=by
          show _=_;rw [B.u,Qjb,if_neg dk,HX.u,e,List.take_length]
         have a3:=Qg s;have z:=Qg a;have aG:n=j+1:=B.u.symm;have aE:=Qg aG;clear s f a HX aG;go_wp2_with fail;go_roundw
         case rel=>exact ⟨j+1,X,dk,by rw [aE.u];go_num,rfl,ai,a3.u,z.u⟩
         case measure=>rw [aE.u];simp [intOf];omega
      ·have e:j=15:=dk
       subst e;have ar:=f.congr (G:=code zs) (fun m hm=>by
        have J:=a4.u (zs[m]) (List.getElem_mem hm);have a2:zs[m]=zs.getD m 0:=by simp [List.getD,hm]
        rw [a2] at J;unfold QdH;rw [if_pos dk])
       go_wp2_with fail;go_ret;exact ⟨Qe0.yes _ _ _ _ _ ay.u aF ar,a⟩
 ·have A:okB zs=false:=by simpa using A
  have ay:dm (okC zs=false):=by show _=_;simp [okC,A]
  have aA:hk zs=0:=by rw [hk,A];rfl
  have aH:(hk zs == 0)=true:=by simp [aA]
  clear aA;exact np
end
def Qba(w:World)(ao:Option Addr)(n:Nat)(F:Nat->Nat×Nat):Prop:=0<n->∃g,ao=some ⟨g,0,none⟩/\VP w g n F
theorem Qge.reads{B:Nat}{w:World}{ao:Option Addr}{n:Nat}{F:Nat->Nat×Nat}(h:Qge B w ao n F):Qba w ao n F:=fun h0=>by
 obtain ⟨g,h1,_,h2⟩:=h h0
 exact ⟨g,h1,h2⟩
section
variable{w:World}{zs:List Int}{g B:Nat}
def Blk(w:World)(g:Nat)(zs:List Int):Prop:=w.heap[g]?=some (.cells (zs.map (Value.int .i64)).toArray 2 (0,0))
theorem Blk.of{n:Nat}(h:w.ownsRow B 2 1 (.slice (some ⟨g,0,none⟩) n n) n (zs.map (Value.int .i64))):Blk w g zs/\B<=g:=by
 rcases h.2 with ⟨y,_⟩|⟨g',K,M,y,hb,O,_,_,E,ht⟩
 ·simp at y
 ·simp only [Value.slice.injEq,Option.some.injEq,Addr.mk.injEq,and_true,true_and] at y
  obtain ⟨rfl,rfl⟩:=y;refine ⟨?_,hb⟩;unfold Blk;rw [O,<-ht,List.take_of_length_le (by rw [Array.length_toList];omega)]
theorem Blk.owns(h:Blk w g zs)(hB:B<=g)(hm:zs.length<=maxLen):w.ownsRow B 2 1 (.slice (some ⟨g,0,none⟩) zs.length zs.length) zs.length (zs.map (Value.int .i64)):=by
 refine ⟨dr,.inr ⟨g,zs.length,_,rfl,hB,h,Nat.le_refl _,hm,dr,?_⟩⟩;rw [List.take_of_length_le dr]
theorem Blk.row(h:Blk w g zs):Qv w (some ⟨g,0,none⟩) zs:=by
 by_cases r:zs.length<=maxLen
 ·exact Qv.owned<|h.owns (B:=0) (Nat.zero_le _) r
 ·refine Qv.of fun i hi=>?_
  unfold Blk at h;simp [World.cell?,h,hi,List.getD]
theorem Tryz.size_i64:(prog.info? 2).map (·.size)=some 1:=by kernel_rfl
theorem QiY(w:World)(g:Nat)(zs ys:List Int)(m dLen dCap sLen sCap:Nat)(a:Addr)(hB:Blk w g zs)(hs:Qv w (some a) ys)(hn:ys.length=Nat.min sLen dLen)(hfit:m+ys.length<=zs.length):
  ∃w2,Sem.run prog (Builtin.copy_ #[70,70] 3 #[.slice (some ⟨g,m,none⟩) dLen dCap,.slice (some a) sLen sCap]) w=.ok (goInt ys.length) w2/\Blk w2 g (zs.take m++ys++zs.drop (m+ys.length))/\∀B w0,Below B w0 w->B<=g->Below B w0 w2:=by
 have f:=run_copy_row (P:=prog) w 70 70 3 2 g m dLen dCap a sLen sCap (zs.map (Value.int .i64)).toArray 2 (ys.map (Value.int .i64)) underlying70 Tryz.size_i64 hB (by rw [List.length_map];exact hn) (by
  intro j u hu;have hj:j<ys.length:=by
   rcases Nat.lt_or_ge j ys.length with h|h
   ·exact h
   ·rw [List.getElem?_eq_none eI] at hu;cases hu
  obtain ⟨b,o,e,I⟩:=hs j hj;simp only [Option.some.injEq] at e;subst e;rw [Addr.add_lit,I];simp [hj] at hu;simp [List.getD,hj,hu]) (by simpa using hfit) (by intro u hu;simp at hu;obtain ⟨x,_,rfl⟩:=hu;rfl)
 rw [List.length_map] at f;refine ⟨_,f,?_,fun B w0 hb hg=>below_setRow hb hg _⟩;have:=setRow_heap w g _ (List.take m (zs.map (Value.int .i64)).toArray.toList++ys.map (Value.int .i64)++List.drop (m+ys.length) (zs.map (Value.int .i64)).toArray.toList).toArray _ _ hB;unfold Blk;rw [this];simp
theorem Qn3(n:Nat)(h:n<=1000000):bits .and .u64 (n:Int) 4294967295=(n:Int):=by
 have J:=Qd2 n 4294967295 dk dk;rw [show ((4294967295:Nat):Int)=4294967295 from rfl] at J;rw [J,show (4294967295:Nat)=2^32-1 from rfl,Nat.and_two_pow_sub_one_eq_mod,Nat.mod_eq_of_lt dk]
theorem Ql2(n:Nat)(w:World)(h:n<=1000000):Calls prog 174 #[.int .u64 1,.int .u64 n] w fun e w'=>e=.returned (.tuple #[.int .u64 0,.int .u64 n])/\w'=w:=by
 have J:=Qn3 n h;have h2:(n:Int)/4294967296=0:=dk;have h3:bits .and .u64 (1:Int) 4294967295=1:=dn;have h4:bits .and .u64 (0:Int) 4294967295=0:=dn;go_enter func174,ntmps174;go_wp2_with fail;exact bodyPost_ret (v:=.tuple #[.int .u64 0,.int .u64 n]) (by simp [results,results174,go_sem]) rfl ⟨rfl,rfl⟩
theorem Qpy(n:Nat)(w:World)(h:n<=1000000):Calls prog 144 #[.int .u64 1,.int .u64 n] w fun e w'=>e=.returned (.tuple #[.int .u64 0,.int .u64 n])/\w'=w:=by
 have HC:=Qg<|Ql2 n w h
 go_enter func144,ntmps144;go_wp2_with fail;refine Calls.mono HC.u ?_;rintro e w' ⟨rfl,rfl⟩;go_wp2_with fail;exact bodyPost_ret (v:=.tuple #[.int .u64 0,.int .u64 n]) (by simp [results,results144,go_sem]) rfl ⟨rfl,rfl⟩
def rep(v:Int)(n m:Nat):List Int:=List.replicate m v++List.replicate (n-m) 0
theorem QkY(v:Int)(n m:Nat)(h:m<=n):(rep v n m).length=n:=by simp [rep];omega
theorem QmH(v:Int)(n:Nat):rep v n 0=List.replicate n 0:=by simp [rep]
theorem Qpj(v:Int)(n:Nat):rep v n n=List.replicate n v:=by simp [rep]
theorem QhR(v:Int)(n m k:Nat)(h:m+k<=n):(rep v n m).take m++List.replicate k v++(rep v n m).drop (m+k)=rep v n (m+k):=by
 unfold rep;rw [List.take_left' dr,List.drop_append,List.drop_eq_nil_of_le dr,List.nil_append,List.drop_replicate,List.length_replicate,List.replicate_append_replicate];congr 2;omega
theorem Qo8(v:Int)(n m k:Nat)(h:k<=m):(rep v n m).take k=List.replicate k v:=by
 unfold rep;rw [List.take_append_of_le_length eI,List.take_replicate,Nat.min_eq_left h]
theorem Qv.taken{ao:Option Addr}(h:Qv w ao zs)(k:Nat):Qv w ao (zs.take k):=nW
theorem Qdf(b off c n:Nat)(v:Int)(w:World)(hr:Qv w (some ⟨b,off,none⟩) [v])(h0:0<n)(hn:n<=1000):
  Calls prog 97 #[.slice (some ⟨b,off,none⟩) 1 c,.int .i64 n] w fun e w'=>e=.returned (.slice (some ⟨w.heap.size,0,none⟩) n n)/\Blk w' w.heap.size (List.replicate n v)/\Below w.heap.size w w':=by
 obtain ⟨i0,hi,af,ak,aq⟩:=info_parts Tryz.info_i64;have HM:=Qg<|Qpy n w dk
 have o:IntKind.u64.wrap (n:Int)=(n:Int):=dN;have HR:=Qg hr;clear hr;go_enter func97,ntmps97;go_wp2_with fail;refine Calls.mono HM.u ?_;rintro e w' ⟨rfl,rfl⟩;go_wp2_with (at_make;refine wpList_make_full _ rfl _ _ 70 rfl w'.heap.size 2 i0 (.int .i64 0) 1 underlying70 hi af ak _ _ _ _ n rfl rfl rfl rfl gD dy (Nat.le_refl _) ?_)
 intro w1 R Q;rw [toList_madeCells_one,<-List.map_replicate,<-QmH v n] at R;obtain ⟨H,_⟩:=Blk.of R;have aj:Below w'.heap.size w' w1:=(Below.refl _ _).grown Q (Nat.le_refl _) dr;obtain ⟨w2,f,ae,ah⟩:=QiY w1 w'.heap.size (rep v n 0) (List.replicate 1 v) 0 n n 1 c ⟨b,off,none⟩ H (HR.u.below aj) (by rw [List.length_replicate];exact (Nat.min_eq_left h0).symm) (by rw [QkY _ _ _ dk];simp;omega);rw [List.length_replicate,QhR v n 0 1 dk] at ae;have a:=Qg ae;have d:=Qg<|ah _ _ aj (Nat.le_refl _)
 rw [List.length_replicate] at f;clear R Q H aj ae ah;go_wp2_with fail;clear f;go_loopw [8] (fun i wr=>∃m:Nat,0<m/\m<=n/\i=.int .i64 m/\dm (Blk wr w'.heap.size (rep v n m))/\dm (Below w'.heap.size w' wr)) (fun i _=>n-(intOf i).toNat)
 case atStart=>exact ⟨1,dk,dk,rfl,a,d⟩
 case round=>
  clear a d;obtain ⟨m,j,g,rfl,h,HB⟩:=hrel;by_cases ab:m<n
  ·obtain ⟨k,hk⟩:=dt (Nat.min m (n-m))
   have au:k<=m:=by rw [<-hk];exact Nat.min_le_left _ _
   have a0:k<=n-m:=by rw [<-hk];exact Nat.min_le_right _ _
   have x:0<k:=by rw [<-hk];exact Nat.lt_min.2 ⟨j,dk⟩
   obtain ⟨w3,f,B,r⟩:=QiY wr.drew w'.heap.size (rep v n m) (List.replicate k v) m (n-m) (n-m) m n ⟨w'.heap.size,0,none⟩ h.u (by rw [<-Qo8 v n m k au];exact (Blk.row (w:=wr.drew) h.u).taken k) (by simp [hk]) (by rw [QkY _ _ _ g];simp;omega);rw [List.length_replicate,QhR v n m k dk] at B;rw [List.length_replicate] at f;have l:=Qg B;have z:=Qg<|r _ _ (HB.u.drew) (Nat.le_refl _)
   clear B r hk;have an:¬n=m:=dk;go_upto_region 9 with fail;go_region
   go_wp2_with fail;exact ⟨⟨m+k,dk,dk,dw,l,z⟩,dM⟩
  ·have e:m=n:=dk
   subst e;have HF:dm (Blk wr w'.heap.size (List.replicate m v)):=by rw [<-Qpj];exact h.u
   go_wp2_with fail;go_ret;exact ⟨rfl,HF.u,HB.u⟩
end
section
variable{w:World}{zs:List Int}
theorem QcV(n:Nat)(z:Value)(h:z.cells.size=1):(Builtin.zeroCells z.cells n).size=n:=by
 simp [Builtin.zeroCells,h]
theorem Tryz.under_int:prog.underlying 3=some (.int .i64):=by kernel_rfl
theorem QnA(n:Nat)(w:World)(h0:0<n)(hn:n<=100000):
  Calls prog 143 #[.slice none 0 0,.int .i64 n] w fun e w'=>∃g cap,e=.returned (.slice (some ⟨g,0,none⟩) 0 cap)/\w'.ownsRow w.heap.size 2 1 (.slice (some ⟨g,0,none⟩) 0 cap) 0 []/\Below w.heap.size w w':=by
 obtain ⟨i0,hi,af,ak,aq⟩:=info_parts Tryz.info_i64;have f:=Lib.run_append_nil_zeros (P:=prog) w 70 3 70 2 i0 (.int .i64 0) .i64 .i64 underlying70 Tryz.under_int hi af n h0 (by rw [ak];decide) dk gD;obtain ⟨cap,C⟩:=dt (grownCap w n 0 2);have m:n<=cap:=by rw [<-C];exact grownCap_ge _ _ _ _
 have al:cap<=maxLen:=by rw [<-C];exact grownCap_le_maxLen _ _ _ _ dy
 rw [C] at f;obtain ⟨M,a⟩:=dt (Builtin.zeroCells (Value.int .i64 0).cells n++Builtin.zeroCells (Value.int .i64 0).cells (cap-n));have an:M.size=cap:=by rw [<-a,Array.size_append,QcV _ _ rfl,QcV _ _ rfl];omega
 rw [a] at f;have HB:dm (Below w.heap.size w (w.drew.alloc (.cells M 2))):=((Below.refl _ _).drew).alloc (Nat.le_refl _) _;have HO:dm ((w.drew.alloc (.cells M 2)).ownsRow w.heap.size 2 1 (.slice (some ⟨w.heap.size,0,none⟩) 0 cap) 0 []):=by
  refine ⟨rfl,.inr ⟨w.heap.size,cap,M,rfl,Nat.le_refl _,?_,Nat.zero_le _,al,dk,dr⟩⟩;show (w.heap.push _)[w.heap.size]?=_;simp
 clear C a an;unfold maxLen at al;go_enter func143,ntmps143;go_wp2_with (at_builtin;refine Lib.wpList_append_run _ rfl _ _ _ _ rfl _ _ rfl rfl _ _ f ?_)
 go_ret;exact ⟨_,_,rfl,HO.u,HB.u⟩
def cat(A:Nat->List Int):Nat->List Int
 | 0=>[]
 | i+1=>cat A i++A i
theorem QnZ(A:Nat->List Int)(i j:Nat)(h:i<=j):(cat A i).length<=(cat A j).length:=by
 induction j with
 | zero=>rw [Nat.le_zero.1 h];exact Nat.le_refl _
 | succ j ih=>
  by_cases e:i=j+1
  ·subst e;exact Nat.le_refl _
  ·have:=ih dk
   rw [cat,List.length_append];omega
theorem Qv.anew{ad:Addr}(h:Qv w (some ad) zs):∀j u,(zs.map (Value.int .i64))[j]?=some u->w.cell? (ad.add j)=some u:=by
 intro j u hu;have hj:j<zs.length:=by
  rcases Nat.lt_or_ge j zs.length with h|h
  ·exact h
  ·rw [List.getElem?_eq_none eI] at hu;cases hu
 obtain ⟨b,o,e,I⟩:=h j hj;simp only [Option.some.injEq] at e;subst e;rw [Addr.add_lit,I];simp [hj] at hu;simp [List.getD,hj,hu]
theorem QnK(zs:List Int):∀u∈zs.map (Value.int .i64),u.oneCell'=true:=by
 intro u hu;simp at hu;obtain ⟨x,_,rfl⟩:=hu;rfl
theorem QjR(q k cq:Nat)(G C:Nat->Nat)(A:Nat->List Int)(w:World)(hk:k<=100)(hc:∀i,i<k->w.cell? ⟨q,i,none⟩=some (.slice (some ⟨G i,0,none⟩) (A i).length (C i)))(hr:∀i,i<k->Qv w (some ⟨G i,0,none⟩) (A i))(hp:∀i,i<k->0<(A i).length)(h0:0<(cat A k).length)(hn:(cat A k).length<=10000):
  Calls prog 96 #[.slice (some ⟨q,0,none⟩) k cq] w fun e w'=>∃g cap,e=.returned (.slice (some ⟨g,0,none⟩) (cat A k).length cap)/\w'.ownsRow w.heap.size 2 1 (.slice (some ⟨g,0,none⟩) (cat A k).length cap) (cat A k).length ((cat A k).map (Value.int .i64))/\Below w.heap.size w w':=by
 obtain ⟨i0,hi,af,ak,aq⟩:=info_parts Tryz.info_i64;have HC:=Qg hc;have HR:=Qg hr;have HP:=Qg hp;clear hp;obtain ⟨N,hN⟩:=dt ((cat A k).length);have HN:=Qg hN;have HG:=Qg<|QnA N w dk dk
 have b:=Qg (fun i=>QnZ A i k);rw [hN] at h0 hn;rw [hN];clear hc hr hN;go_enter func96,ntmps96;go_wp2_with fail;go_loop [3,11] (fun s i=>∃j:Nat,j<=k/\i=.int .i64 j/\s=.int .i64 ((cat A j).length:Nat)) (fun _ i=>k-(intOf i).toNat)
 case atStart=>exact ⟨0,Nat.zero_le _,rfl,rfl⟩
 case round=>
  obtain ⟨j,hj,rfl,rfl⟩:=hrel;by_cases ab:j<k
  ·have c:=HC.u j ab
   have hS:(cat A (j+1)).length=(cat A j).length+(A j).length:=by rw [cat,List.length_append]
   have hb:(cat A (j+1)).length<=10000:=by have:=b.u (j+1) ab;rw [HN.u] at this;omega
   have HS:=Qg hS;have aj:(cat A j).length+(A j).length<=10000:=dk;clear hS hb;go_wp2_with fail;exact ⟨⟨j+1,dk,dw,by rw [HS.u];go_num⟩,dM⟩
  ·have e:j=k:=dk
   subst e;rw [HN.u];go_wp2_with fail;refine Calls.mono HG.u ?_;rintro e w1 ⟨g,cap,rfl,ho,hb⟩;have HO:=Qg ho;have HB:=Qg hb;clear ho hb HG;go_wp2_with fail;go_loopw [6,27] (fun v i wr=>∃(j' g cap:Nat),j'<=j/\i=.int .i64 j'/\v=.slice (some ⟨g,0,none⟩) (cat A j').length cap/\dm (wr.ownsRow w.heap.size 2 1 (.slice (some ⟨g,0,none⟩) (cat A j').length cap) (cat A j').length ((cat A j').map (Value.int .i64)))/\dm (Below w.heap.size w wr)) (fun _ i _=>j-(intOf i).toNat)
   case atStart=>exact ⟨0,g,cap,Nat.zero_le _,rfl,rfl,HO,HB⟩
   case round=>
    clear HO HB;obtain ⟨i,g,cap,d,rfl,rfl,HO,HB⟩:=hrel;by_cases a:i<j
    ·have hc:=HC.u i a
     have hq:=World.block_lt_of_cell? w _ hc;have c:=(HB.u.cell (p:=⟨q,i,none⟩) hq).trans hc;have f:=Qg<|(HR.u i a).below HB.u
     have aj:(cat A i).length+(A i).length<=10000:=by
      have:=b.u (i+1) a;rw [HN.u,cat,List.length_append] at this;omega
     have D:=HB.u.size;have ba:dm (cat A (i+1)=cat A i++A i):=rfl;have aF:w.heap.size<=g:=(HO.u.lt g rfl).1;clear hc hq;go_wp2_with (at_builtin;refine Qaq _ rfl _ _ 70 rfl w.heap.size 2 i0 (.int .i64 0) 1 8 underlying70 hi af ak aq rfl dn (.slice (some ⟨g,0,none⟩) (cat A i).length cap) (cat A i).length ((cat A i).map (Value.int .i64)) rfl HO.u ⟨G i,0,none⟩ (A i).length (C i) ((A i).map (Value.int .i64)) rfl dr f.u.anew (QnK _) dy dk D ?_)
     intro v4 w4 R Q;rw [<-List.map_append,<-ba.u,show (cat A i).length+(A i).length=(cat A (i+1)).length from by rw [ba.u,List.length_append]] at R;have T:=HB.u.grown Q D gI;obtain ⟨g4,c4,rfl⟩:∃g4 c4,v4=.slice (some ⟨g4,0,none⟩) (cat A (i+1)).length c4:=by
      rcases R.2 with ⟨_,h0⟩|⟨g',K,M,y,_⟩
      ·have:=HP.u i a
       rw [ba.u,List.length_append] at h0;omega
      ·exact ⟨g',K,y⟩
     have U:=Qg R;have F:=Qg T;clear R Q T;go_wp2_with fail;exact ⟨⟨i+1,g4,c4,dk,dw,rfl,U,F⟩,dM⟩
    ·have e:i=j:=dk
     subst e;rw [HN.u] at HO ⊢;go_wp2_with fail;go_ret;exact ⟨g,cap,rfl,HO.u,HB.u⟩
theorem QlX(w:World)(x:Int)(t:TypeId):Qv (w.alloc (.cells #[.int .i64 x] t)) (some ⟨w.heap.size,0,none⟩) [x]:=by
 refine Qv.of fun i hi=>?_
 simp at hi;subst hi;simp [go_sem]
def F288:List Int:=((([]++List.replicate 144 8)++List.replicate 112 9)++List.replicate 24 7)++List.replicate 8 8
theorem Ve:F288.length=288:=by unfold F288;simp only [List.length_append,List.length_replicate,List.length_nil]
theorem Qcf(W:World)(x:Int)(n:Nat)(h0:0<n)(hn:n<=1000):
  Calls prog 97 #[.slice (some ⟨W.heap.size,0,none⟩) 1 1,.int .i64 n] (W.alloc (.cells #[.int .i64 x] 2)) fun e w'=>∃(g:Nat) (B:List Int),e=.returned (.slice (some ⟨g,0,none⟩) B.length B.length)/\dm (B=List.replicate n x)/\Blk w' g B/\Below W.heap.size W w':=by
 refine Calls.mono (Qdf W.heap.size 0 1 n x (W.alloc (.cells #[.int .i64 x] 2)) (QlX W x 2) h0 hn) ?_;rintro e w' ⟨rfl,a,hb⟩;exact ⟨_,List.replicate n x,by rw [List.length_replicate],rfl,a,((Below.refl _ _).alloc (Nat.le_refl _) _).trans (hb.mono dr)⟩
theorem Blk.below{w':World}{g:Nat}(h:Blk w g zs)(hb:Below w.heap.size w w'):Blk w' g zs:=by
 have hl:g<w.heap.size:=(Array.getElem?_eq_some_iff.1 h).1;unfold Blk;rw [hb.block g hl];exact h
def of4{α:Type}(a b c d:α):Nat->α
 | 0=>a
 | 1=>b
 | 2=>c
 | _=>d
theorem QcX(w:World):Calls prog 59 #[] w fun e w'=>∃g cap,e=.returned (.slice (some ⟨g,0,none⟩) F288.length cap)/\w'.ownsRow w.heap.size 2 1 (.slice (some ⟨g,0,none⟩) F288.length cap) F288.length (F288.map (Value.int .i64))/\Below w.heap.size w w':=by
 have x:=Qg<|Qcf w 8 144 dn dn
 go_enter func59,ntmps59;go_wp2_with fail;refine Calls.mono x.u ?_;rintro e w1 ⟨g0,B0,rfl,E0,b0,k0⟩;have l:=Qg<|Qcf w1 9 112 dn dn
 have K1:=Qg k0;have X1:=Qg b0;clear b0 k0 x;go_wp2_with fail;refine Calls.mono l.u ?_;rintro e w2 ⟨g1,B1,rfl,E1,b1,k1⟩;have H3:=Qg<|Qcf w2 7 24 dn dn
 have K2:=Qg<|K1.u.trans (k1.mono K1.u.size)
 have X2:=Qg<|X1.u.below k1
 have y:=Qg b1;clear b1 k1 l K1 X1;go_wp2_with fail;refine Calls.mono H3.u ?_;rintro e w3 ⟨g2,B2,rfl,E2,b2,k2⟩;have f:=Qg<|Qcf w3 8 8 dn dn
 have K3:=Qg<|K2.u.trans (k2.mono K2.u.size)
 have h:=Qg<|X2.u.below k2
 have P:=Qg<|y.u.below k2
 have I:=Qg b2;clear b2 k2 H3 K2 X2 y;go_wp2_with fail;refine Calls.mono f.u ?_;rintro e w4 ⟨g3,B3,rfl,o,Z,k3⟩;have K4:=Qg<|K3.u.trans (k3.mono K3.u.size)
 have j:=Qg<|h.u.below k3
 have K:=Qg<|P.u.below k3
 have r:=Qg<|I.u.below k3
 have c:=Qg Z;clear Z k3 f K3 h P I;obtain ⟨A,hA⟩:=dt (of4 B0 B1 B2 B3);obtain ⟨w5,R⟩:=dt (w4.alloc (.cells #[.slice (some ⟨g0,0,none⟩) B0.length B0.length,.slice (some ⟨g1,0,none⟩) B1.length B1.length,.slice (some ⟨g2,0,none⟩) B2.length B2.length,.slice (some ⟨g3,0,none⟩) B3.length B3.length] 70));have b:Below w4.heap.size w4 w5:=by rw [<-R];exact (Below.refl _ _).alloc (Nat.le_refl _) _
 have a:cat A 4=F288:=by
  rw [<-hA];show ((([]++B0)++B1)++B2)++B3=_;rw [E0.u,E1.u,E2.u,o.u];rfl
 have HC:=QjR w4.heap.size 4 4 (of4 g0 g1 g2 g3) (of4 B0.length B1.length B2.length B3.length) A w5 dn
  (fun i hi=>by
   rw [<-R,<-hA];rcases (by omega:i=0\/i=1\/i=2\/i=3) with rfl|rfl|rfl|rfl<;>simp [go_sem,of4])
  (fun i hi=>by
   rw [<-hA];rcases (by omega:i=0\/i=1\/i=2\/i=3) with rfl|rfl|rfl|rfl
   ·exact (j.u.below b).row
   ·exact (K.u.below b).row
   ·exact (r.u.below b).row
   ·exact (c.u.below b).row)
  (fun i hi=>by
   rw [<-hA];rcases (by omega:i=0\/i=1\/i=2\/i=3) with rfl|rfl|rfl|rfl
   ·show 0<B0.length;rw [E0.u,List.length_replicate];decide
   ·show 0<B1.length;rw [E1.u,List.length_replicate];decide
   ·show 0<B2.length;rw [E2.u,List.length_replicate];decide
   ·show 0<B3.length;rw [o.u,List.length_replicate];decide)
  (by rw [a,Ve];decide) (by rw [a,Ve];decide)
 rw [a] at HC;have d:=Qg HC;have br:=Qg<|K4.u.trans (b.mono K4.u.size)
 clear HC b a j K r c E0 E1 E2 o K4 hA;go_wp2_with fail;refine Calls.mono d.u ?_;rintro e w6 ⟨g,cap,rfl,ho,hb⟩;have HO:=Qg ho;have a6:=Qg<|br.u.trans (hb.mono br.u.size)
 have aS:=br.u.size;clear ho hb d;go_wp2_with fail;go_ret;refine ⟨g,cap,rfl,⟨HO.u.1,?_⟩,a6.u⟩;rcases HO.u.2 with h2|⟨g',c',M,h3,h4,U⟩
 ·exact .inl h2
 ·exact .inr ⟨g',c',M,h3,Nat.le_trans aS h4,U⟩
end
section
variable{w:World}{cap p B g:Nat}{e:TypeId}{zs:List Int}{L:List Nat}
structure BW(w:World)(p:Nat)(L:List Nat):Prop where
 code:∃ao cap,w.cell? ⟨p,0,none⟩=some (.slice ao (pk L).length cap)/\Qi 5 (p+1) w ao cap (pk L)
 used:w.cell? ⟨p,1,none⟩=some (.int .i64 (L.length:Nat))
 f0:w.frozen? ⟨p,0,none⟩=false
 f1:w.frozen? ⟨p,1,none⟩=false
theorem BW.lt(h:BW w p L):p<w.heap.size:=World.block_lt_of_cell? w _ h.used
theorem BW.below{w':World}(h:BW w p L)(hb:Below w.heap.size w w'):BW w' p L:=by
 obtain ⟨⟨X,G,J,h2⟩,h3,h4,U⟩:=h;have N:=World.block_lt_of_cell? w _ h3;exact ⟨⟨X,G,(hb.cell (p:=⟨p,0,none⟩) N).trans J,h2.below hb⟩,(hb.cell (p:=⟨p,1,none⟩) N).trans h3,(hb.frozen (p:=⟨p,0,none⟩) N).trans h4,(hb.frozen (p:=⟨p,1,none⟩) N).trans U⟩
theorem Qi.at{ao:Option Addr}(h:Qi e B w ao cap zs)(h0:0<zs.length):∃g,ao=some ⟨g,0,none⟩/\B<=g/\g<w.heap.size/\zs.length<=cap:=oj
theorem Qi.cell(h:Qi e B w (some ⟨g,0,none⟩) cap zs){k:Nat}(hk:k<zs.length):w.cell? ⟨g,k,none⟩=some (.int .u8 (zs.getD k 0)):=om
theorem Qi.set(h:Qi e B w (some ⟨g,0,none⟩) cap zs)(k:Nat)(x:Int):Qi e B (w.setCell ⟨g,k,none⟩ (.int .u8 x)) (some ⟨g,0,none⟩) cap (zs.set k x):=by
 have J:=(World.ownsRow.stored h k (.int .u8 x)).1;unfold Qi;rw [List.length_set,List.map_set];exact J
theorem Qbu(w:World)(x:Int)(t:TypeId):Q1 (w.alloc (.cells #[.int .u8 x] t)) (some ⟨w.heap.size,0,none⟩) [x]:=qk
theorem BW.finish{wr:World}{I U b:Nat}{Z:List Int}{v:Int}{M:List Nat}(ho:Qi 5 (p+1) wr (some ⟨g,0,none⟩) cap Z)(c0:wr.cell? ⟨p,0,none⟩=some (.slice (some ⟨g,0,none⟩) Z.length cap))(c1:wr.cell? ⟨p,1,none⟩=some (.int .i64 U))(f0:wr.frozen? ⟨p,0,none⟩=false)(f1:wr.frozen? ⟨p,1,none⟩=false)(hZ:Z.set I v=pk (M++[b]))(hU:M.length=U)(hb:Below p w wr)(hgp:p+1<=g):BW (((wr.setCell ⟨g,I,none⟩ (.int .u8 v)).drew).setCell ⟨p,1,none⟩ (.int .i64 ((U:Int)+1))) p (M++[b])/\Below p w (((wr.setCell ⟨g,I,none⟩ (.int .u8 v)).drew).setCell ⟨p,1,none⟩ (.int .i64 ((U:Int)+1))):=by
 have o1:=ho.set I v;rw [hZ] at o1;have hd:Below (wr.setCell ⟨g,I,none⟩ (.int .u8 v)).heap.size (wr.setCell ⟨g,I,none⟩ (.int .u8 v)) (wr.setCell ⟨g,I,none⟩ (.int .u8 v)).drew:=(Below.refl _ _).drew;have o2:=o1.below hd;have o3:=o2.grown (Qf _ ⟨p,1,none⟩ (.int .i64 ((U:Int)+1))) (fun k e he=>by simp [Qt] at e he;omega);have d0:(wr.setCell ⟨g,I,none⟩ (.int .u8 v)).drew.cell? ⟨p,0,none⟩=some (.slice (some ⟨g,0,none⟩) Z.length cap):=by
  rw [<-c0];exact qq
 have d1:(wr.setCell ⟨g,I,none⟩ (.int .u8 v)).drew.cell? ⟨p,1,none⟩=some (.int .i64 U):=by
  rw [<-c1];exact qq
 have hl:Z.length=(pk (M++[b])).length:=by rw [<-hZ,List.length_set]
 refine ⟨⟨⟨some ⟨g,0,none⟩,cap,?_,o3⟩,?_,?_,?_⟩,?_⟩
 ·rw [World.cell?_setCell_other _ _ _ _ dr,d0,hl]
 ·rw [World.cell?_setCell_same _ _ _ d1]
  simp [hU]
 ·rw [World.frozen?_setCell]
  show (wr.setCell _ _).frozen? _=_;rw [World.frozen?_setCell];exact f0
 ·rw [World.frozen?_setCell]
  show (wr.setCell _ _).frozen? _=_;rw [World.frozen?_setCell];exact f1
 ·have u:=hb.setCell (p:=⟨g,I,none⟩) (by show p<=g;omega) (.int .u8 v)
  exact (u.drew).setCell (p:=⟨p,1,none⟩) (Nat.le_refl _) _
theorem Qcj(p V n:Nat)(L:List Nat)(w:World)(hW:BW w p L)(hL:Bin L)(hn:n<=64)(hV:V<2^64)(hl:L.length<=2000000):
  Calls prog 60 #[.pointer (some ⟨p,0,none⟩),.int .u64 V,.int .i64 n] w fun e w'=>e=.returned (.tuple #[])/\BW w' p (L++QV V n)/\Below p w w':=by
 refine ei ?_;intro i0 hi af ak aq;have HW:=Qg hW;have HL:=Qg hL;clear hW hL;go_enter func60,ntmps60;go_wp2_with fail;go_loopw [8] (fun i wr=>∃k:Nat,k<=n/\i=.int .i64 k/\dm (BW wr p (L++QV V k))/\dm (Below p w wr)) (fun i _=>n-(intOf i).toNat)
 case atStart=>exact ⟨0,Nat.zero_le _,rfl,by show BW w p _;rw [Qc1,List.append_nil];exact HW.u,Below.refl _ _⟩
 case round=>
  clear HW;obtain ⟨k,hk,rfl,HW,HB⟩:=hrel;by_cases ab:k<n
  ·obtain ⟨M,hM⟩:=dt (L++QV V k)
   have ay:Bin M:=by rw [<-hM];exact HL.u.app (Qax V k)
   have Y:M.length=L.length+k:=by rw [<-hM,List.length_append,Vx]
   obtain ⟨b,hb⟩:=dt (V/2^k%2);have aj:b<=1:=dk;have a8:dm (L++QV V (k+1)=M++[b]):=by show _=_;rw [Qcw,hb,<-hM,List.append_assoc]
   have E:V/2^k<2^64:=Nat.lt_of_le_of_lt (Nat.div_le_self _ _) hV;have an:=QoP (V/2^k) E;rw [hb] at an;rw [hM] at HW;have F:(V:Int)/2^k=((V/2^k:Nat):Int):=by
    rw [show ((2:Int)^k)=((2^k:Nat):Int) from (Int.natCast_pow 2 k).symm];exact (Int.natCast_ediv V (2^k)).symm
   generalize V/2^k=V2 at*;have a6:IntKind.u64.wrap (V2:Int)=(V2:Int):=dN;obtain ⟨⟨X,G,C,ho⟩,c1,f0,f1⟩:=HW.u;obtain ⟨U,hU⟩:=dt M.length;rw [hU] at c1 Y;have aH:=QaB M;rw [hU] at aH;obtain ⟨I,hI⟩:=dt (U/8);obtain ⟨r,y⟩:=dt (U%8);have aC:r<8:=dk;have W:(U:Int)/8=(I:Int):=dk;have aB:(U:Int).tdiv 8=(I:Int):=qr;have aE:(U:Int)%8=(r:Int):=dk;have aA:(U:Int).tmod 8=(r:Int):=qs;have a9:U<=2000100:=dk;obtain ⟨T,hT⟩:=dt (b*2^r);have ag:T<=128:=qt;have aD:IntKind.u8.wrap ((b:Int)*2^r)=(T:Int):=qu;have aW:IntKind.u8.wrap (b:Int)=(b:Int):=by
    simp [IntKind.wrap,IntKind.bits,IntKind.signed];omega
   have ax:(b:Int)%256=(b:Int):=dk;have l:p<wr.heap.size:=HW.u.lt;have o:=Qg hU;have P:=Qg hI;have HR:=Qg y;have HT:=Qg hT;have bJ:=Qg ay;have HO:=Qg ho;have a1:=Qg aH;clear hM hU hI hT ay ho HW hb E hV Y aH y;by_cases h8:r=0
   ·subst h8
    refine kK ?_;intro ah;have m:=Qg (fun A t=>HB.u.trans (((Below.refl _ _).alloc (Nat.le_refl _) (.cells A t)).mono (Nat.le_of_lt l)));have f:(pk M).length=I:=by rw [a1.u,<-P.u];omega
    have al:T=b:=by rw [<-HT.u];simp
    have az:(pk M).length<=1000000:=by rw [f,<-P.u];omega
    have c:=Qg f;clear f;go_wp2_with (at_builtin;refine Qm _ rfl _ _ 22 rfl (p+1) 5 i0 (.int .u8 0) 1 underlying22 hi af ak aq rfl (.slice X (pk M).length G) (pk M).length ((pk M).map (Value.int .u8)) rfl (ah.u _ _) (some ⟨wr.heap.size,0,none⟩) 1 [0] rfl (Qbu wr 0 5) (fun e=>dx) dK du du ?_)
    intro v' w2 R Q aa;have H:w2.ownsRow (p+1) 5 1 v' ((pk M).length+1) ((pk M++[0]).map (Value.int .u8)):=eU;obtain ⟨a3,ar,rfl,S⟩:=Qi.of H;rw [QA] at Q;have ae:Below p w w2:=(m.u _ _).grown Q du (fun q e=>by have:=HO.u.base q e;omega);have s:w2.heap[p]?=wr.heap[p]?:=(Q.block p du (fun e=>by have:=HO.u.base p e.symm;omega)).trans ((Qk ((Below.refl wr.heap.size wr).alloc (Nat.le_refl _) (.cells #[.int .u8 0] 5)) none).block p l dr);have d0:=(World.cell?_of_block (a:=⟨p,0,none⟩) s).trans C;have d1:=(World.cell?_of_block (a:=⟨p,1,none⟩) s).trans c1;have K:=(World.frozen?_of_block (a:=⟨p,0,none⟩) s).trans f0;have e1:=(World.frozen?_of_block (a:=⟨p,1,none⟩) s).trans f1;have au:p<w2.heap.size:=World.block_lt_of_cell? w2 _ d1;obtain ⟨Z,hZ⟩:=dt (pk M++[0]);rw [hZ] at S ⊢;have a2:Z.length=I+1:=by rw [<-hZ,List.length_append,c.u];rfl
    obtain ⟨g,rfl,aX,ad,aT⟩:=S.at dk;have av:=S.grown (Qf w2 ⟨p,0,none⟩ (.slice (some ⟨g,0,none⟩) Z.length ar)) (fun k e he=>by simp [Qt] at e he;omega);have g0:(w2.setCell ⟨p,0,none⟩ (.slice (some ⟨g,0,none⟩) Z.length ar)).cell? ⟨p,0,none⟩=some (.slice (some ⟨g,0,none⟩) Z.length ar):=World.cell?_setCell_same _ _ _ d0;have g1:(w2.setCell ⟨p,0,none⟩ (.slice (some ⟨g,0,none⟩) Z.length ar)).cell? ⟨p,1,none⟩=some (.int .i64 U):=by rw [World.cell?_setCell_other _ _ _ _ dr];exact d1
    have N:(w2.setCell ⟨p,0,none⟩ (.slice (some ⟨g,0,none⟩) Z.length ar)).frozen? ⟨p,0,none⟩=false:=by rw [World.frozen?_setCell];exact K
    have z:(w2.setCell ⟨p,0,none⟩ (.slice (some ⟨g,0,none⟩) Z.length ar)).frozen? ⟨p,1,none⟩=false:=by rw [World.frozen?_setCell];exact e1
    have cx:=av.cell (k:=I) dk;have fx:(w2.setCell ⟨p,0,none⟩ (.slice (some ⟨g,0,none⟩) Z.length ar)).frozen? ⟨g,I,none⟩=false:=World.ownsRow.frozenAt av I;have a4:Z.getD I 0=0:=by rw [<-hZ,<-c.u];simp [List.getD]
    rw [a4] at cx;have ai:bits .or .u8 (0:Int) (b:Int)=(b:Int):=by simpa using QnN 0 0 b dn aj dn
    have h:Z.set I (b:Int)=pk (M++[b]):=by
     rw [Qb6,Qc0,o.u,if_pos HR.u,<-hZ,<-c.u,List.set_append_right _ _ (Nat.le_refl _),Nat.sub_self];rfl
    have B:=ae.setCell (p:=⟨p,0,none⟩) (Nat.le_refl _) (.slice (some ⟨g,0,none⟩) Z.length ar);obtain ⟨KB,v⟩:=BW.finish (I:=I) av g0 g1 N z h o.u B aX;have a7:=Qg KB;have d:=Qg v;have a0:I<Z.length:=dk;have O:p<(w2.setCell ⟨p,0,none⟩ (.slice (some ⟨g,0,none⟩) Z.length ar)).heap.size:=by simpa using au
    subst al;clear R H Q aa KB v ae B h a4 S av s C c1 f0 f1 ah m a2 hZ;obtain ⟨w3,D⟩:=dt (w2.setCell ⟨p,0,none⟩ (.slice (some ⟨g,0,none⟩) Z.length ar));rw [D] at a7 d g0 g1 N z cx fx O;have G0:=Qg g0;have u:=Qg g1;have CX:=Qg cx;clear g0 g1 cx;go_upto_region 5 with fail;have g0:=G0.u;have g1:=u.u;have cx:=CX.u;clear D d0 d1 K e1;exact qv
   ·have aF:((r:Int) == 0)=false:=by rw [beq_eq_false_iff_ne];omega
    have aw:I<(pk M).length:=by rw [a1.u,<-P.u];omega
    obtain ⟨g,rfl,aX,ad,aT⟩:=HO.u.at dk;obtain ⟨x,hx,a5⟩:=Qhh M bJ.u (by rw [o.u,HR.u];exact h8);rw [o.u,P.u] at hx;rw [o.u,HR.u] at a5;have cx:=HO.u.cell aw;rw [hx] at cx;have fx:wr.frozen? ⟨g,I,none⟩=false:=World.ownsRow.frozenAt HO.u I;have ai:=QnN r x b aC aj a5;rw [HT.u,Int.natCast_add] at ai;have j:dm ((pk M).set I ((x:Int)+(T:Int))=pk (M++[b])):=by
     show _=_;rw [Qb6,Qc0,o.u,HR.u,if_neg h8,P.u,hx,HT.u]
    clear hx a5;obtain ⟨KB,v⟩:=BW.finish (I:=I) HO.u C c1 f0 f1 j.u o.u HB.u aX;have a7:=Qg KB;have d:=Qg v;clear KB v;go_upto_region 5 with fail;exact qv
  ·have e:k=n:=dk
   subst e;go_wp2_with fail;go_end0;exact ⟨rfl,HW.u,HB.u⟩
end
end Go.Proofs.YtgginbpmebgkcaaGreatDoor
