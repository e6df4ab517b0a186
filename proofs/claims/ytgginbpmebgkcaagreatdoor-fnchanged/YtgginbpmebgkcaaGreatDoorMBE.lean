import Derived.BigRegion
import Derived.Deep.AppendLies
import Derived.Test.YtgginbpmebgkcaaGreatDoorMAL
namespace Go.Proofs.YtgginbpmebgkcaaGreatDoor
open Go.RowKit Go.Proofs.Tryz
set_option linter.unusedVariables false
set_option maxRecDepth 100000
set_option maxHeartbeats 25600000
def QcW(i:Nat):List Nat:=QV (code F288 i).2 (code F288 i).1
def Qad(zs:List Int):Nat->List Nat
 | 0=>[]++QV 1 1++QV 1 2
 | k+1=>Qad zs k++QcW (zs.getD k 0).toNat
def Qr(zs:List Int):List Nat:=Qad zs zs.length++QcW 256
theorem QlH:∀z∈F288,0<=z/\z<=9:=by decide+kernel
theorem QhD:okC F288=true:=by decide+kernel
theorem QeD:nC F288=288:=by rw [nC,QhD,Ve];rfl
theorem QbT(i:Nat):(code F288 i).1<=9:=by
 have h:(F288.getD i 0).toNat<=9:=by
  by_cases hi:i<F288.length
  ·have:=QlH (F288.getD i 0) gu
   omega
  ·simp [List.getD,hi]
 unfold code;split
 ·exact Nat.zero_le _
 ·exact h
theorem QcI(i:Nat):(code F288 i).2<2^64:=by
 unfold code;split
 ·exact Nat.pos_of_ne_zero dr
 ·refine Nat.lt_of_lt_of_le (Qhb _ _) (Nat.pow_le_pow_right dn ?_)
  have:=QbT i;unfold code at this;rename_i h;rw [if_neg h] at this;omega
theorem Qa0(i:Nat):(QcW i).length<=9:=by unfold QcW;rw [Vx];exact QbT i
theorem Qaj(zs:List Int)(k:Nat):(Qad zs k).length<=3+9*k:=by
 induction k with
 | zero=>simp [Qad,Vx]
 | succ k ih=>
  rw [Qad,List.length_append];have:=Qa0 (zs.getD k 0).toNat;omega
theorem QbP(zs:List Int)(k:Nat):Bin (Qad zs k):=by
 induction k with
 | zero=>exact (Bin.app (fun b hb=>by cases hb) (Qax _ _)).app (Qax _ _)
 | succ k ih=>exact ih.app (Qax _ _)
end Go.Proofs.YtgginbpmebgkcaaGreatDoor
namespace Go.Proofs.YtgginbpmebgkcaaGreatDoor
open Go.RowKit Go.Proofs.Tryz
attribute [local go_sem ↓] Go.wp_at_zero Go.wp_at_succ
set_option linter.unusedVariables false
set_option maxRecDepth 100000
set_option maxHeartbeats 25600000
def ib(L:List Nat):List Int:=L.map (fun b:Nat=>(b:Int))
theorem Qek(L:List Nat):(ib L).length=L.length:=by simp [ib]
theorem QqY(L M:List Nat):ib (L++M)=ib L++ib M:=by simp [ib]
theorem Qr8(L:List Nat)(i:Nat):(ib L).getD i 0=((L.getD i 0:Nat):Int):=by
 simp only [ib,List.getD,List.getElem?_map];cases L[i]?<;>rfl
theorem QgF(B:Nat)(ao:Option Addr)(cap X n:Nat)(L:List Nat)(w:World)(ho:Qi 5 B w ao cap (ib L))(hB:B<=w.heap.size)(hn:n<=64)(hX:X<2^64)(hl:L.length<=2000000):
  Calls prog 70 #[.slice ao (ib L).length cap,.int .u64 X,.int .i64 n] w fun e w'=>∃ao' cap',e=.returned (.slice ao' (ib (L++QV X n)).length cap')/\Qi 5 B w' ao' cap' (ib (L++QV X n))/\Below B w w':=by
 refine ei ?_;intro i0 hi af ak aq;have HO:=Qg ho;clear ho;go_enter func70,ntmps70;go_wp2_with fail;go_loopw [0,1,7] (fun v x i wr=>∃(k a:Nat) (ao':Option Addr) (cap':Nat) (Z:List Int),k<=n/\i=.int .i64 k/\x=.int .u64 a/\dm (X/2^k=a)/\a<2^64/\v=.slice ao' Z.length cap'/\Z.length<=2000100/\dm (Z=ib (L++QV X k))/\dm (Qi 5 B wr ao' cap' Z)/\dm (Below B w wr)) (fun _ _ i _=>n-(intOf i).toNat)
 case atStart=>exact ⟨0,X,ao,cap,ib L,Nat.zero_le _,rfl,rfl,Nat.div_one X,hX,rfl,by rw [Qek];omega,by show _=_;rw [Qc1,List.append_nil],HO,Below.refl _ _⟩
 case round=>
  clear HO;obtain ⟨k,a,ao',cap',Z,hk,rfl,rfl,HX,l,rfl,a2,HZ,HO,HB⟩:=hrel;by_cases ab:k<n
  ·obtain ⟨b,hb⟩:=dt (a%2)
   have c:(a:Int)%2=(b:Int):=dk;have al:(a:Int).tmod 2=(b:Int):=by rw [Int.tmod_eq_emod_of_nonneg dk];exact c
   obtain ⟨y,hy⟩:=dt (a/2);have j:(a:Int)/2=(y:Int):=dk;have o:(a:Int).tdiv 2=(y:Int):=by rw [Int.tdiv_eq_ediv_of_nonneg dk];exact j
   have g:IntKind.u64.wrap (y:Int)=(y:Int):=dN;have a1:dm (X/2^(k+1)=y):=by show _=_;rw [Nat.pow_succ,<-Nat.div_div_eq_div_mul,HX.u];exact hy
   have f:dm (Z++[(b:Int)]=ib (L++QV X (k+1))):=by
    show _=_;rw [HZ.u,Qcw,HX.u,hb,<-List.append_assoc,QqY (L++QV X k)];rfl
   have h:y<2^64:=dk;refine kK ?_;intro ah;have C:B<=wr.heap.size:=Nat.le_trans hB HB.u.size;refine kL ?_;intro m;have av:dm (Z.length=L.length+k):=by show _=_;rw [HZ.u,Qek,List.length_append,Vx]
   clear hb hy;go_wp2_with (at_builtin;refine Qm _ rfl _ _ 22 rfl B 5 i0 (.int .u8 0) 1 underlying22 hi af ak aq rfl (.slice ao' Z.length cap') Z.length (Z.map (Value.int .u8)) rfl (ah.u _ _) (some ⟨wr.heap.size,0,none⟩) 1 [(b:Int)] rfl (Qbu wr b 5) (fun e=>dx) dK du du ?_)
   intro v' w2 R Q aa;have H:w2.ownsRow B 5 1 v' (Z.length+1) ((Z++[(b:Int)]).map (Value.int .u8)):=eU;obtain ⟨a3,ar,rfl,S⟩:=Qi.of H;rw [QA] at Q;have d:=Qg<|(m.u _ _).grown Q du (fun q e=>HO.u.base q e)
   have an:=Qg S;have O:(Z++[(b:Int)]).length<=2000100:=qx;generalize Z++[(b:Int)]=Z2 at*;clear R H Q aa S ah m;go_wp2_with fail;exact ⟨⟨k+1,y,a3,ar,Z2,dk,dw,rfl,a1,h,rfl,O,f,an,d⟩,dM⟩
  ·have e:k=n:=dk
   subst e;have E:=HZ.u;subst E;go_wp2_with fail;go_ret;exact ⟨ao',cap',rfl,HO.u,HB.u⟩
theorem BW.new(w:World)(t:TypeId):BW (w.alloc (.cells #[.slice none 0 0,.int .i64 0] t)) w.heap.size []:=
 ⟨⟨none,0,by simp [go_sem];rfl,World.ownsRow_nil _ _ _ _⟩,dF,dF,dF⟩
theorem VP.beneath{w w':World}{B g n:Nat}{F:Nat->Nat×Nat}(h:VP w g n F)(hb:Below B w w')(hg:g<B):VP w' g n F:=
 ⟨Nat.lt_of_lt_of_le h.lt hb.size,fun i hi=>(hb.cell (p:=⟨g,i*2,none⟩) hg).trans (h.at0 i hi),fun i hi=>(hb.cell (p:=⟨g,i*2+1,none⟩) hg).trans (h.at1 i hi),fun o=>(hb.frozen (p:=⟨g,o,none⟩) hg).trans (h.free o)⟩
theorem QgV(ao:Option Addr)(cap:Nat)(zs:List Int)(w:World)(hr:Q1 w ao zs)(hoct:Qh zs)(hl:zs.length<=100000):
  Calls prog 25 #[.slice ao zs.length cap] w fun e w'=>Go.Proofs.YtgginbpmebgkcaaGreatDoor.Qsi w w' (pk (Qr zs)) e:=by
 have HR:=Qg hr;have K:=Qg hoct;have HF:=Qg<|QcX w
 clear hr hoct;go_enter func25,ntmps25;go_wp2_with fail;refine Calls.mono HF.u ?_;rintro e w1 ⟨gF,Q,rfl,a0,aj⟩;have HC:=Qg<|QbW (some ⟨gF,0,none⟩) Q F288 w1 (Qv.owned a0) hH
 have o:=Qg aj;clear a0 aj HF;go_wp2_with fail;refine Calls.mono HC.u ?_;rintro e w2 ⟨⟨aC,cC,rfl,J⟩,ah⟩;have ae:=o.u.trans<|ah.mono o.u.size
 have d:=Qg ae;obtain ⟨l,rfl,aF,f⟩:=J (by rw [QeD];decide);have aK:=Qg f;obtain ⟨M,H⟩:=dt (nC F288);have N:288<=M:=by rw [<-H,QeD];exact Nat.le_refl _
 rw [H] at aK ⊢;have ad:=f.lt;clear f J ah ae HC H o;have c:=Qg<|Qcj w2.heap.size 1 1 [] (w2.alloc (.cells #[.slice none 0 0,.int .i64 0] 115)) (BW.new w2 _) (fun b hb=>by cases hb) dn dn dr
 have m:dm (Below w2.heap.size w2 (w2.alloc (.cells #[.slice none 0 0,.int .i64 0] 115))):=(Below.refl _ _).alloc (Nat.le_refl _) _;obtain ⟨w3,D⟩:=dt (w2.alloc (.cells #[.slice none 0 0,.int .i64 0] 115));rw [D] at c m;go_wp2_with fail;refine Calls.mono c.u ?_;rintro e w4 ⟨rfl,v,T⟩;have I:=d.u.size;have z:=Qg<|d.u.trans (m.u.mono I)
 have A:=Qg<|aK.u.beneath m.u ad
 have a:=Qg<|Qcj w2.heap.size 1 2 ([]++QV 1 1) w4 v ((Bin.app (fun b hb=>by cases hb) (Qax 1 1))) dn dn (by simp [Vx])
 have F:=Qg T;clear v T c d aK m D;generalize w2.heap.size=p at*;go_wp2_with fail;refine Calls.mono a.u ?_;rintro e w5 ⟨rfl,t,az⟩;have s:=Qg t;have br:=Qg<|F.u.trans az
 clear t az a F;go_wp2_with fail;go_loopw [20] (fun i wr=>∃k:Nat,k<=zs.length/\i=.int .i64 k/\dm (BW wr p (Qad zs k))/\dm (Below p w3 wr)) (fun i _=>zs.length-(intOf i).toNat)
 case atStart=>exact ⟨0,Nat.zero_le _,rfl,s,br⟩
 case round=>
  clear s br;obtain ⟨k,hk,rfl,HW,HB⟩:=hrel;have q:=Qg<|A.u.beneath HB.u ad
  have L:=Qg<|z.u.trans (HB.u.mono I)
  by_cases ab:k<zs.length
  ·obtain ⟨b,U,rfl,x⟩:=HR.u.at ab
   refine q9 ?_;intro aW S r j B;rw [B] at S r;refine ra ?_;intro y V u G g;generalize (code F288 j).1=X at*;generalize (code F288 j).2=Y at*;have hfl:=Qaj zs k;have HP:=Qg (fun W (h:BW W p (Qad zs k))=>Qcj p Y X (Qad zs k) W h (QbP zs k) dk g dk);have aa:=HW.u.lt;have O:(j:Int)<(M:Int):=dk;have b3:(0:Int)<=(j:Int):=dk;clear x B r hfl g;go_upto_region 10 with fail;go_region_held3 (fun w'=>w'.cell? ⟨l,j*2,none⟩=some (.int .i64 X)/\w'.cell? ⟨l,j*2+1,none⟩=some (.int .u64 Y))
    (first|(refine ⟨?_,?_⟩<;>with_reducible assumption)|(go_keep;done))
    ((go_at_call 60;refine Calls.mono (HP.u _ (HW.u.below ((Below.refl _ _).drew))) ?_;rintro e w7 ⟨rfl,P,af⟩;have q0:=(af.cell (p:=⟨l,j*2,none⟩) ad).trans (show wr.drew.cell? ⟨l,j*2,none⟩=some (.int .i64 X) from V);have q1:=(af.cell (p:=⟨l,j*2+1,none⟩) ad).trans (show wr.drew.cell? ⟨l,j*2+1,none⟩=some (.int .u64 Y) from u)))
   have R:dm (BW w7 p (Qad zs (k+1))):=by show BW _ _ _;rw [y.u];exact P
   have bd:dm (Below p w3 w7):=(HB.u.drew).trans af;clear P af;go_wp2_with fail;exact ⟨⟨k+1,dk,dw,R,bd⟩,dM⟩
  ·have e:k=zs.length:=dk
   subst e;refine rb ?_;intro V u y G g;generalize (code F288 256).1=X at*;generalize (code F288 256).2=Y at*;have hfl:=Qaj zs zs.length;have HP:=Qg (fun W (h:BW W p (Qad zs zs.length))=>Qcj p Y X (Qad zs zs.length) W h (QbP zs zs.length) dk g dk);have aa:=HW.u.lt;have O:(256:Int)<(M:Int):=dk;clear hfl g;go_upto_region 12 with fail;go_region_held3 (fun w'=>w'.cell? ⟨l,512,none⟩=some (.int .i64 X)/\w'.cell? ⟨l,513,none⟩=some (.int .u64 Y))
    (first|(refine ⟨?_,?_⟩<;>with_reducible assumption)|(go_keep;done))
    ((go_at_call 60;refine Calls.mono (HP.u _ (HW.u.below ((Below.refl _ _).drew))) ?_;rintro e w7 ⟨rfl,P,af⟩;have q0:=(af.cell (p:=⟨l,512,none⟩) ad).trans (show wr.drew.cell? ⟨l,512,none⟩=some (.int .i64 X) from V);have q1:=(af.cell (p:=⟨l,513,none⟩) ad).trans (show wr.drew.cell? ⟨l,513,none⟩=some (.int .u64 Y) from u)))
   have ag:BW w7 p (Qr zs):=by rw [y.u];exact P
   have bd:=Qg<|L.u.trans (((Below.refl p wr).drew.trans af).mono I)
   obtain ⟨⟨a8,c8,d0,C⟩,_⟩:=ag;have E:=Qg<|C.mono (show w.heap.size<=p+1 by omega)
   clear P af C q0 q1;go_wp2_with fail;go_ret;exact ⟨a8,c8,rfl,E.u,bd.u⟩
section
variable{L:List Nat}
theorem QjO(L:List Nat)(k:Nat)(h:k<L.length):L.take (k+1)=L.take k++[L.getD k 0]:=gv
theorem Bin.take(h:Bin L)(k:Nat):Bin (L.take k):=fun b hb=>h b (List.mem_of_mem_take hb)
theorem Bin.getD(h:Bin L)(k:Nat):L.getD k 0<=1:=by
 by_cases hk:k<L.length
 ·have:L.getD k 0=L[k]:=by simp [List.getD,hk]
  rw [this];exact h _ (List.getElem_mem hk)
 ·simp [List.getD,hk]
theorem Qjs(ao:Option Addr)(cap:Nat)(L:List Nat)(w:World)(hr:Q1 w ao (ib L))(hL:Bin L)(hl:L.length<=2000000):
  Calls prog 71 #[.slice ao (ib L).length cap] w fun e w'=>Go.Proofs.YtgginbpmebgkcaaGreatDoor.Qsi w w' (pk L) e:=by
 refine ei ?_;intro i0 hi af ak aq;have HR:=Qg hr;have HL:=Qg hL;have a6:dm (Qi 5 w.heap.size (w.alloc (.cells #[] 5)) (some ⟨w.heap.size,0,none⟩) 0 []):=World.ownsRow_lit w #[] 0 (Nat.le_refl _) dy rfl;have av:dm (Below w.heap.size w (w.alloc (.cells #[] 5))):=(Below.refl _ _).alloc (Nat.le_refl _) _;obtain ⟨N,hN⟩:=dt ((ib L).length);have D:L.length=N:=by rw [<-hN,Qek]
 have o:=Qg D;rw [hN];have V:N<=2000000:=dk;clear hr hL hN D hl;go_enter func71,ntmps71;go_wp2_with fail;go_loopw [3,4] (fun v i wr=>∃(k:Nat) (l:Option Addr) (K:Nat) (Z:List Int),k<=N/\i=.int .i64 k/\v=.slice l Z.length K/\Z.length<=300000/\dm (Z=pk (L.take k))/\dm (Qi 5 w.heap.size wr l K Z)/\dm (Below w.heap.size w wr)) (fun _ i _=>N-(intOf i).toNat)
 case atStart=>exact ⟨0,_,0,[],Nat.zero_le _,rfl,rfl,dr,rfl,a6,av⟩
 case round=>
  clear a6 av;obtain ⟨k,l,K,Z,hk,rfl,rfl,a2,HZ,HO,HB⟩:=hrel;by_cases ab:k<N
  ·obtain ⟨M,hM⟩:=dt (L.take k)
   have Y:M.length=k:=by rw [<-hM,List.length_take,o.u];omega
   have ay:Bin M:=by rw [<-hM];exact HL.u.take k
   obtain ⟨b,hb⟩:=dt (L.getD k 0);have aj:b<=1:=by rw [<-hb];exact HL.u.getD k
   have a8:dm (L.take (k+1)=M++[b]):=by show _=_;rw [QjO L k (by rw [o.u];exact ab),hb,hM]
   obtain ⟨bb,U,rfl,az⟩:=HR.u.at (k:=k) kX;have aW:bb<w.heap.size:=World.block_lt_of_cell? w _ (az k kX);have cb:=(HB.u.cell (p:=⟨bb,U+k,none⟩) aW).trans (az k kX);rw [Qr8,hb] at cb;rw [hM] at HZ;have aH:=QaB M;rw [Y] at aH;obtain ⟨I,hI⟩:=dt (k/8);obtain ⟨r,hr⟩:=dt (k%8);have aC:r<8:=dk;have W:(k:Int)/8=(I:Int):=dk;have aB:(k:Int).tdiv 8=(I:Int):=qr;have aE:(k:Int)%8=(r:Int):=dk;have aA:(k:Int).tmod 8=(r:Int):=qs;have al:IntKind.u64.wrap (r:Int)=(r:Int):=dN;have au:min r 8=r:=dk;obtain ⟨T,hT⟩:=dt (b*2^r);have ag:T<=128:=qt;have aD:IntKind.u8.wrap ((b:Int)*2^r)=(T:Int):=qu;have P:=Qg hI;have y:=Qg hr;have HT:=Qg hT;have a1:=Qg aH;have u:=Qg Y;have bJ:=Qg ay;have C:=HB.u.size;have a0:k<=2000000:=dk;clear hM hI hT ay hb Y aH hr az;by_cases h8:r=0
   ·subst h8
    have f:Z.length=I:=by rw [HZ.u,a1.u,<-P.u];omega
    have a:T=b:=by rw [<-HT.u];simp
    subst a;have c:=Qg f;refine kK ?_;intro ah;refine kL ?_;intro m;have G:dm (I+1<=300000):=by show _<=_;rw [<-P.u];omega
    clear f;go_wp2_with (at_builtin;refine Qm _ rfl _ _ 22 rfl w.heap.size 5 i0 (.int .u8 0) 1 underlying22 hi af ak aq rfl (.slice l Z.length K) Z.length (Z.map (Value.int .u8)) rfl (ah.u _ _) (some ⟨wr.heap.size,0,none⟩) 1 [0] rfl (Qbu wr 0 5) (fun e=>dx) dK du du ?_)
    intro v' w2 R Q aa;have H:w2.ownsRow w.heap.size 5 1 v' (Z.length+1) ((Z++[0]).map (Value.int .u8)):=eU;obtain ⟨a3,ar,rfl,S⟩:=Qi.of H;rw [QA] at Q;have ae:Below w.heap.size w w2:=(m.u _ _).grown Q du (fun q e=>HO.u.base q e);have ai:=(ae.cell (p:=⟨bb,U+k,none⟩) aW).trans ((HB.u.cell (p:=⟨bb,U+k,none⟩) aW).symm.trans cb);obtain ⟨Z2,s⟩:=dt (Z++[0]);rw [s] at S ⊢;have B:Z2.length=I+1:=by rw [<-s,List.length_append,c.u];rfl
    obtain ⟨g,rfl,aX,ad,aT⟩:=S.at dk;have aw:I<Z2.length:=dk;have cx:=S.cell aw;have fx:w2.frozen? ⟨g,I,none⟩=false:=World.ownsRow.frozenAt S I;have a4:Z2.getD I 0=0:=by rw [<-s,<-c.u];simp [List.getD]
    rw [a4] at cx;have h:Z2.set I (T:Int)=pk (M++[T]):=by
     rw [Qb6,Qc0,u.u,if_pos y.u,<-s,<-c.u,List.set_append_right _ _ (Nat.le_refl _),Nat.sub_self,HZ.u];rfl
    have j:=Qg h;have o2:=S.set I (T:Int);have n:=ae.setCell (p:=⟨g,I,none⟩) aX (.int .u8 (T:Int));have an:=Qg<|o2.below ((Below.refl _ _).drew)
    have d:=Qg n.drew;have z:dm ((Z2.set I (T:Int)).length=Z2.length):=List.length_set;have F:=Qg B;clear R H Q aa S o2 n ae a4 h s B ah m cb;go_upto_region 7 with fail;go_region
    go_wp2_with fail;refine ⟨⟨k+1,_,ar,Z2.set I (T:Int),dk,dw,by rw [z.u],by rw [z.u,F.u];exact G.u,?_,an,d⟩,dM⟩;show _=_;rw [a8.u,j.u]
   ·have aF:((r:Int) == 0)=false:=by rw [beq_eq_false_iff_ne];omega
    have aw:I<Z.length:=by rw [HZ.u,a1.u,<-P.u];omega
    obtain ⟨g,rfl,aX,ad,aT⟩:=HO.u.at dk;obtain ⟨x,hx,a5⟩:=Qhh M bJ.u (by rw [u.u,y.u];exact h8);rw [u.u,P.u,<-HZ.u] at hx;rw [u.u,y.u] at a5;have cx:=HO.u.cell aw;have fx:wr.frozen? ⟨g,I,none⟩=false:=World.ownsRow.frozenAt HO.u I;have X:x+T<=255:=by
     have J:2^r<=2^7:=Nat.pow_le_pow_right dn dk;omega
    have j:dm (Z.set I ((x:Int)+(T:Int))=pk (M++[b])):=by
     show _=_;rw [Qb6,Qc0,u.u,y.u,if_neg h8,P.u,<-HZ.u,hx,HT.u]
    rw [hx] at cx;have o2:=HO.u.set I ((x:Int)+(T:Int));have n:=HB.u.setCell (p:=⟨g,I,none⟩) aX (.int .u8 ((x:Int)+(T:Int)));have an:=Qg<|o2.below ((Below.refl _ _).drew)
    have d:=Qg n.drew;have O:(Z.set I ((x:Int)+(T:Int))).length=Z.length:=List.length_set;have z:=Qg O;clear hx a5 o2 n O;go_upto_region 7 with fail;go_region
    go_wp2_with fail;refine ⟨⟨k+1,_,K,Z.set I ((x:Int)+(T:Int)),dk,dw,by rw [z.u],by rw [z.u];exact a2,?_,an,d⟩,dM⟩;show _=_;rw [a8.u,j.u]
  ·have e:k=N:=dk
   subst e;have E:Z=pk L:=by rw [HZ.u,List.take_of_length_le (by rw [o.u];exact Nat.le_refl _)]
   subst E;go_wp2_with fail;go_ret;exact ⟨l,K,rfl,HO.u,HB.u⟩
end
section
variable{k:Nat}
def fx(s:Nat):Int:=if 144<=s/\s<256 then 9 else if 256<=s/\s<280 then 7 else 8
theorem Qsf(h:k<144):fx k=8:=by rw [fx,if_neg dk,if_neg dk]
theorem QrX(h:¬k<144)(h2:k<256):fx k=9:=by rw [fx,if_pos dk]
theorem QrT(h:¬k<256)(h2:k<280):fx k=7:=by rw [fx,if_neg dk,if_pos dk]
theorem Qsd(h:¬k<280):fx k=8:=by rw [fx,if_neg dk,if_neg dk]
theorem Qe9(s:Nat)(h:s<288):F288.getD s 0=fx s:=by
 have J:∀s:Fin 288,F288.getD s.val 0=fx s.val:=eg;exact J ⟨s,h⟩
theorem Qjm(w:World)(x:Value)(t:TypeId):∀j u,([x]:List Value)[j]?=some u->(w.alloc (.cells #[x] t)).cell? ((⟨w.heap.size,0,none⟩:Addr).add j)=some u:=pE
theorem QiL(w:World):Calls prog 68 #[] w fun e w'=>∃g cap v,e=.returned (.tuple #[.slice (some ⟨g,0,none⟩) F288.length cap,v])/\w'.ownsRow w.heap.size 2 1 (.slice (some ⟨g,0,none⟩) F288.length cap) F288.length (F288.map (Value.int .i64))/\Below w.heap.size w w':=by
 refine pF ?_;intro i0 hi af ak aq w1 s p q L o;go_enter func68,ntmps68;go_wp2_with fail;clear s;go_loopw [2,4,5] (fun v i _ wr=>∃(k g cap:Nat) (Z:List Int),k<=288/\i=.int .i64 k/\v=.slice (some ⟨g,0,none⟩) Z.length cap/\Z.length<=288/\dm (Z.length=k)/\dm (Z=F288.take k)/\dm (wr.ownsRow w.heap.size 2 1 (.slice (some ⟨g,0,none⟩) Z.length cap) Z.length (Z.map (Value.int .i64)))/\dm (g≠w.heap.size+1)/\dm (wr.heap[w.heap.size+1]?=some (.cells #[] 2 (0,0)))/\w.heap.size+1<wr.heap.size/\dm (Below w.heap.size w wr)) (fun _ i _ _=>288-(intOf i).toNat)
 case atStart=>exact ⟨0,_,0,[],Nat.zero_le _,rfl,rfl,dr,rfl,rfl,p,(by show _≠_;omega),q,L,o⟩
 case round=>
  clear p q L o;obtain ⟨k,g,cap,Z,hk,rfl,rfl,N,d,HZ,HO,HG,b,s,HB⟩:=hrel;have a:g≠w.heap.size+1:=HG.u;by_cases ab:k<288
  ·have aF:w.heap.size<=g:=(HO.u.lt g rfl).1
   have ad:g<wr.heap.size:=(HO.u.lt g rfl).2;have C:=HB.u.size;refine iq ?_;intro ah m;by_cases J:k<144
   ·skip
    have HN:=Qg<|Qjm wr (.int .i64 8) 2
    have f:dm (Z++[(8:Int)]=F288.take (k+1)):=by show _=_;rw [HZ.u,Vg F288 k eC,Qe9 k dk,Qsf J]
    exact ir
   ·by_cases h2:k<256
    ·skip
     have HN:=Qg<|Qjm wr (.int .i64 9) 2
     have f:dm (Z++[(9:Int)]=F288.take (k+1)):=by show _=_;rw [HZ.u,Vg F288 k eC,Qe9 k dk,QrX J h2]
     exact pG
    ·by_cases h3:k<280
     ·skip
      have HN:=Qg<|Qjm wr (.int .i64 7) 2
      have f:dm (Z++[(7:Int)]=F288.take (k+1)):=by show _=_;rw [HZ.u,Vg F288 k eC,Qe9 k dk,QrT h2 h3]
      exact pH
     ·skip
      have HN:=Qg<|Qjm wr (.int .i64 8) 2
      have f:dm (Z++[(8:Int)]=F288.take (k+1)):=by show _=_;rw [HZ.u,Vg F288 k eC,Qe9 k dk,Qsd h3]
      exact ir
  ·have e:k=288:=dk
   have E:Z=F288:=pI;subst E;have K:dm (wr.ownsRow (w.heap.size+1) 2 1 (.slice (some ⟨w.heap.size+1,0,none⟩) 0 0) 0 []):=⟨rfl,.inr ⟨w.heap.size+1,0,#[],rfl,Nat.le_refl _,b.u,Nat.le_refl _,dy,rfl,rfl⟩⟩;clear e hk;go_wp2_with fail;go_loopw [3,6] (fun v i wx=>∃(j x cd:Nat) (D:List Value),j<=32/\i=.int .i64 j/\v=.slice (some ⟨x,0,none⟩) j cd/\dm (wx.ownsRow (w.heap.size+1) 2 1 (.slice (some ⟨x,0,none⟩) j cd) j D)/\x≠g/\dm (wx.ownsRow w.heap.size 2 1 (.slice (some ⟨g,0,none⟩) F288.length cap) F288.length (F288.map (Value.int .i64)))/\dm (Below w.heap.size w wx)) (fun _ i _=>32-(intOf i).toNat)
   case atStart=>exact ⟨0,_,0,[],Nat.zero_le _,rfl,rfl,K,(fun e=>HG.u e.symm),HO,HB⟩
   case round=>
    clear K HO HB HG b s;obtain ⟨j,x,cd,D,hj,rfl,rfl,HD,an,HO,HB⟩:=hrel;by_cases ab:j<32
    ·have a2:w.heap.size+1<=x:=(HD.u.lt x rfl).1
     refine pJ ?_;intro ad C I;refine iq ?_;intro ah m;have HN:=Qg<|Qjm wr (.int .i64 5) 2
     go_wp2_with (at_builtin;refine wpList_append_lies _ rfl _ _ 70 rfl (w.heap.size+1) 2 i0 (.int .i64 0) 1 8 underlying70 hi af ak aq rfl dn (.slice (some ⟨x,0,none⟩) j cd) j D rfl (I.u _ _) ⟨wr.heap.size,0,none⟩ 1 1 [.int .i64 5] rfl rfl HN.u eB dn dy dk du _ rfl ?_)
     intro g4 c4 w4 R Q aa l;have a6:=Qg R;refine pK ?_;intro U F M;clear R Q aa HN I ah m HD HO HB;go_wp2_with fail;exact ⟨⟨j+1,g4,c4,_,dk,dw,rfl,a6,M,U,F⟩,dM⟩
    ·go_wp2_with fail
     exact bodyPost_ret (v:=.tuple #[.slice (some ⟨g,0,none⟩) F288.length cap,.slice (some ⟨x,0,none⟩) j cd]) pL rfl ⟨g,cap,_,rfl,HO.u,HB.u⟩
end
theorem QrH(w:World)(a b c:Int):Qi 5 w.heap.size (w.alloc (.cells #[.int .u8 a,.int .u8 b,.int .u8 c] 5)) (some ⟨w.heap.size,0,none⟩) 3 [a,b,c]:=
 World.ownsRow_lit w #[.int .u8 a,.int .u8 b,.int .u8 c] 3 (Nat.le_refl _) dy rfl
theorem Qrq(zs:List Int):ib (Qad zs 0)=[1,1,0]:=by
 show ib ([]++QV 1 1++QV 1 2)=_;decide+kernel
theorem VP.beneath2{w w':World}{B g n:Nat}{F:Nat->Nat×Nat}(h:VP w g n F)(hb:Below B w w')(hg:g<B):VP w' g n F:=
 ⟨Nat.lt_of_lt_of_le h.lt hb.size,fun i hi=>(hb.cell (p:=⟨g,i*2,none⟩) hg).trans (h.at0 i hi),fun i hi=>(hb.cell (p:=⟨g,i*2+1,none⟩) hg).trans (h.at1 i hi),fun o=>(hb.frozen (p:=⟨g,o,none⟩) hg).trans (h.free o)⟩
theorem QgM(ao:Option Addr)(cap:Nat)(zs:List Int)(w:World)(hr:Q1 w ao zs)(hoct:Qh zs)(hl:zs.length<=100000):
  Calls prog 32 #[.slice ao zs.length cap] w fun e w'=>Go.Proofs.YtgginbpmebgkcaaGreatDoor.Qsi w w' (pk (Qr zs)) e:=by
 have HR:=Qg hr;have K:=Qg hoct;have HF:=Qg<|QiL w
 clear hr hoct;go_enter func32,ntmps32;go_wp2_with fail;refine Calls.mono HF.u ?_;rintro e w1 ⟨gF,Q,vF,rfl,a0,aj⟩;have HC:=Qg<|QbY (some ⟨gF,0,none⟩) Q F288 w1 (Qv.owned a0) hH
 have o:=Qg aj;clear a0 aj HF;go_wp2_with fail;refine Calls.mono HC.u ?_;rintro e w2 ⟨⟨aC,cC,rfl,J⟩,ah⟩;have ae:=o.u.trans<|ah.mono o.u.size
 have d:=Qg ae;obtain ⟨l,rfl,aF,f⟩:=J (by rw [QeD];decide);have aK:=Qg f;obtain ⟨M,H⟩:=dt (nC F288);have N:288<=M:=by rw [<-H,QeD];exact Nat.le_refl _
 rw [H] at aK ⊢;have ad:=f.lt;have I:=d.u.size;clear f J ah ae HC H o;have aB:dm (Qi 5 w2.heap.size (w2.alloc (.cells #[.int .u8 1,.int .u8 1,.int .u8 0] 5)) (some ⟨w2.heap.size,0,none⟩) 3 (ib (Qad zs 0))):=by
  show Qi _ _ _ _ _ _;rw [Qrq];exact QrH w2 1 1 0
 have m:dm (Below w2.heap.size w2 (w2.alloc (.cells #[.int .u8 1,.int .u8 1,.int .u8 0] 5))):=(Below.refl _ _).alloc (Nat.le_refl _) _;go_wp2_with fail;go_loopw [6,7] (fun v i wr=>∃(k:Nat) (a6:Option Addr) (c6:Nat) (Z:List Int),k<=zs.length/\i=.int .i64 k/\v=.slice a6 Z.length c6/\dm (Z=ib (Qad zs k))/\dm (Qi 5 w2.heap.size wr a6 c6 Z)/\dm (Below w2.heap.size w2 wr)) (fun _ i _=>zs.length-(intOf i).toNat)
 case atStart=>exact ⟨0,_,3,ib (Qad zs 0),Nat.zero_le _,rfl,rfl,rfl,aB,m⟩
 case round=>
  clear aB m;obtain ⟨k,a6,c6,Z,hk,rfl,rfl,HZ,HO,HB⟩:=hrel;have q:=Qg<|aK.u.beneath2 HB.u ad
  have L:=Qg<|d.u.trans (HB.u.mono I)
  have C:=HB.u.size;by_cases ab:k<zs.length
  ·obtain ⟨b,U,rfl,x⟩:=HR.u.at ab
   refine q9 ?_;intro aW S r j B;rw [B] at S r;refine ra ?_;intro y V u G g;generalize (code F288 j).1=X at*;generalize (code F288 j).2=Y at*;have hfl:=Qaj zs k;have O:(j:Int)<(M:Int):=dk;have b3:(0:Int)<=(j:Int):=dk;have E:=HZ.u;subst E;have HP:=Qg (fun A t=>QgF w2.heap.size a6 c6 Y X (Qad zs k) (wr.alloc (.cells A t)) (HO.u.below ((Below.refl _ _).alloc (Nat.le_refl _) _)) du dk g dk);have m:=Qg (fun A t=>HB.u.trans (((Below.refl wr.heap.size wr).alloc (Nat.le_refl _) (.cells A t)).mono C));clear x B r hfl g;go_wp2_with fail;refine Calls.mono (HP.u _ _) ?_;rintro e w7 ⟨a7,c7,rfl,s,aA⟩;rw [<-y.u] at s ⊢;have aa:=Qg s;have bd:=Qg<|(m.u _ _).trans aA
   clear s aA HP m;go_wp2_with fail;exact ⟨⟨k+1,a7,c7,ib (Qad zs (k+1)),dk,dw,rfl,rfl,aa,bd⟩,dM⟩
  ·have e:k=zs.length:=dk
   subst e;refine rb ?_;intro V u y G g;generalize (code F288 256).1=X at*;generalize (code F288 256).2=Y at*;have hfl:=Qaj zs zs.length;have O:(256:Int)<(M:Int):=dk;have E:=HZ.u;subst E;have HP:=Qg<|QgF w2.heap.size a6 c6 Y X (Qad zs zs.length) wr.drew (HO.u.below ((Below.refl _ _).drew)) C dk g dk
   have D:Bin (Qr zs):=by rw [y.u];exact (QbP zs zs.length).app (Qax _ _)
   have ai:(Qr zs).length<=2000000:=by rw [y.u,List.length_append,Vx];omega
   have HQ:=Qg (fun W a c (h:Q1 W a (ib (Qr zs)))=>Qjs a c (Qr zs) W h D ai);rw [<-y.u] at HP;clear hfl g D ai;go_upto_region 11 with fail;go_region_held3 (fun w'=>w'.cell? ⟨l,512,none⟩=some (.int .i64 X)/\w'.cell? ⟨l,513,none⟩=some (.int .u64 Y))
    (first|(refine ⟨?_,?_⟩<;>with_reducible assumption)|(go_keep;done))
    (first
     | (go_at_call 70;refine Calls.mono HP.u ?_;rintro e w7 ⟨a7,c7,rfl,s,aA⟩;have q0:=(aA.cell (p:=⟨l,512,none⟩) ad).trans (show wr.drew.cell? ⟨l,512,none⟩=some (.int .i64 X) from V);have q1:=(aA.cell (p:=⟨l,513,none⟩) ad).trans (show wr.drew.cell? ⟨l,513,none⟩=some (.int .u64 Y) from u);have ag:=s.mine;have z:w2.heap.size<=w7.heap.size:=(Nat.le_trans C aA.size))
     | (go_at_call 71;refine Calls.mono (HQ.u _ _ _ ag.row) ?_;rintro e w9 ⟨a9,c9,rfl,F,ax⟩;have s0:=(ax.cell (p:=⟨l,512,none⟩) (Nat.lt_of_lt_of_le ad z)).trans q0;have s1:=(ax.cell (p:=⟨l,513,none⟩) (Nat.lt_of_lt_of_le ad z)).trans q1))
   have P:Below w2.heap.size w2 w9:=((HB.u.drew).trans aA).trans (ax.mono z);have R:=Qg<|d.u.trans (P.mono I)
   have T:=Qg<|Qi.mono F (Nat.le_trans I z)
   clear F ax aA P ag;go_wp2_with fail;go_ret;exact ⟨a9,c9,rfl,T.u,R.u⟩
end Go.Proofs.YtgginbpmebgkcaaGreatDoor
