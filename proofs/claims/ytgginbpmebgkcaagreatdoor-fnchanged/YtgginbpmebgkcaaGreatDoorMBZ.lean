import Derived.Laws.BitsAllLaws
import Derived.Test.YtgginbpmebgkcaaGreatDoorMAD
import Derived.Test.YtgginbpmebgkcaaGreatDoorMAS
import Derived.Test.YtgginbpmebgkcaaGreatDoorMBK
import Derived.Test.YtgginbpmebgkcaaGreatDoorMBL
import Derived.Test.YtgginbpmebgkcaaGreatDoorMBN
import Derived.Test.YtgginbpmebgkcaaGreatDoorMBW
import Derived.Test.YtgginbpmebgkcaaGreatDoorMBY
namespace Go.Proofs.YtgginbpmebgkcaaGreatDoor
open Go.RowKit Go.Proofs.Tryz
attribute [local go_sem ↓] Go.wp_at_zero Go.wp_at_succ
set_option linter.unusedVariables false
set_option maxRecDepth 100000
set_option maxHeartbeats 25600000
theorem Qos(W:World)(B:Nat)(x y z u:Int)(t:TypeId)(hB:B<=W.heap.size):Qi t B (W.alloc (.cells #[.int .u8 x,.int .u8 y,.int .u8 z,.int .u8 u] t)) (some ⟨W.heap.size,0,none⟩) 4 [x,y,z,u]:=
 World.ownsRow_lit W #[.int .u8 x,.int .u8 y,.int .u8 z,.int .u8 u] 4 hB dy rfl
theorem Qrf(ao:Option Addr)(ca:Nat)(zs:List Int)(w:World)(hr:Q1 w ao zs)(hz:Qh zs)(hl:zs.length<=100)(hao:∀ad,ao=some ad->0<zs.length->ad.block<w.heap.size):
  Calls prog 9 #[.agg #[.int .i64 0,.int .i64 0,.int .i64 0,.int .i64 0,.slice none 0 0,.slice none 0 0,.slice none 0 0,.int .i64 (zs.length:Nat)],.slice ao zs.length ca] w fun e w'=>∃a c,e=.returned (.slice a (gcode zs).length c)/\Qi 5 w.heap.size w' a c (gcode zs)/\Below w.heap.size w w':=by
 obtain ⟨i0,hi,af,ak,aq⟩:=info_parts Tryz.info_u8s;have N:=Qe (fun W=>QoR 0 0 0 0 (zs.length:Nat) none none none 0 0 0 [] [] [] W (Q1.nil _ _) (Q1.nil _ _) (Q1.nil _ _) dr dr dr);rw [QpT zs.length dk] at N;have HR:=Qe hr;have ai:=Qe hao;refine kY ?_;intro P hP HP aC;have EF:=Qe (fun W h=>QgM ao ca zs W h hz dk);rw [hP] at EF;obtain ⟨X,hX⟩:=dt (Crc.crc zs);have a9:X<4294967296:=by rw [<-hX];exact QnB zs hz
 have CR:=Qe (fun W h=>Qmu ao ca zs W h hz dk);rw [hX] at CR;have HX:=Qe hX;have aD:IntKind.u64.wrap (X:Int)=(X:Int):=dN;have au:=Qe (fun W=>QdR 0 4 W dn dn);have s:=Qe (fun W=>QdR X 4 W a9 dn);have I:=Qe (fun W=>QdR zs.length 4 W dk dn);obtain ⟨B0,C⟩:=dt (QI 0 4);obtain ⟨aw,Y⟩:=dt (QI X 4);obtain ⟨BN,an⟩:=dt (QI zs.length 4);have l0:B0.length<=4:=by rw [<-C,QN];omega
 have lX:aw.length<=4:=by rw [<-Y,QN];omega
 have lN:BN.length<=4:=by rw [<-an,QN];omega
 rw [C] at au;rw [Y] at s;rw [an] at I;have av:=Qe C;have aA:=Qe Y;have a2:=Qe an;refine sG ?_;intro x u n M;have aF:IntKind.u64.wrap (n:Int)=(n:Int):=dN;rw [M] at N EF CR I x u hl ⊢;clear hr hz hao hP hX M C Y an;go_enter func9,ntmps9;go_upto_region 1 with fail;generalize w.alloc (.cells #[.int .i64 0,.int .i64 0,.int .i64 0,.int .i64 0,.slice none 0 0,.slice none 0 0,.slice none 0 0,.int .i64 (n:Nat)] 28)=w1 at*;obtain ⟨b0,b1,b2,Z,H,b5,b6,b7⟩:=x.u;go_wp2_with fail;refine Calls.mono (N.u _) ?_;rintro e w2 ⟨rfl,ah⟩;have U:=Qe<|u.u.trans (ah.mono u.u.size)
 have z:=Qe<|x.u.below ah
 clear ah u x b0 b1 b2 Z H b5 b6 b7 N;obtain ⟨b0,b1,b2,Z,H,b5,b6,b7⟩:=z.u;have a0:w.heap.size<w2.heap.size:=z.u.lt;have i:dm (Below w.heap.size w (w2.alloc (.cells #[.int .u8 31,.int .u8 139,.int .u8 8,.int .u8 0] 5))):=U.u.alloc U.u.size _;have d:=Qe<|z.u.below ((Below.refl _ _).alloc (Nat.le_refl _) (.cells #[.int .u8 31,.int .u8 139,.int .u8 8,.int .u8 0] 5))
 have y:=Qe<|Qos w2 (w.heap.size+1) 31 139 8 0 5 dk
 go_upto_region 4 with fail;clear b0 b1 b2 Z H b5 b6 b7 U z;obtain ⟨q,ay⟩:∃a:Option Addr,some ⟨w2.heap.size,0,none⟩=a:=⟨_,rfl⟩;generalize w2.alloc (.cells #[.int .u8 31,.int .u8 139,.int .u8 8,.int .u8 0] 5)=w3 at*;obtain ⟨c3,ax⟩:∃c:Nat,4=c:=⟨_,rfl⟩;obtain ⟨D,r⟩:∃L:List Int,[31,139,8,0]=L:=⟨_,rfl⟩;have al:D.length<=100:=by rw [<-r];simp
 have ag:=Qe r;have t:dm (Value.slice (some ⟨w2.heap.size,0,none⟩) 4 4=.slice q D.length c3):=by show _=_;rw [ay,<-ax,<-r];rfl
 rw [ay,ax,r] at y;rw [t.u];clear ay ax r t;obtain ⟨b0,b1,b2,Z,H,b5,b6,b7⟩:=d.u;go_wp2_with fail;refine Calls.mono (au.u _) ?_;rintro e S ⟨p,A,rfl,j,o⟩;refine jb ?_;intro l F K k f m;clear o j y i d b0 b1 b2 Z H b5 b6 b7;go_wp2_with (at_builtin;refine Qm _ rfl _ _ 22 rfl (w.heap.size+1) 5 i0 (.int .u8 0) 1 underlying22 hi af ak aq rfl (.slice q D.length c3) D.length (D.map (Value.int .u8)) rfl K.u p A B0 rfl k.u.row k.u.nil_len dK du f.u ?_)
 intro v w4 R Q aa;rw [<-List.map_append] at R;obtain ⟨a4,c4,rfl,ho⟩:=Qi.of R;rw [QA] at Q;refine gn ?_;intro i d;obtain ⟨L4,b⟩:=dt (D++B0);have O:L4.length<=150000:=gp;rw [b] at ho ⊢;have G:=Qe b;have y:=Qe ho;clear R Q aa ho b K l F f m;obtain ⟨b0,b1,b2,Z,H,b5,b6,b7⟩:=d.u;have l:dm (Below w.heap.size w (w4.alloc (.cells #[.int .u8 0,.int .u8 0] 5))):=i.u.alloc i.u.size _;have F:=Qe<|d.u.below ((Below.refl _ _).alloc (Nat.le_refl _) (.cells #[.int .u8 0,.int .u8 0] 5))
 have K:=Qe<|y.u.below ((Below.refl _ _).alloc (Nat.le_refl _) (.cells #[.int .u8 0,.int .u8 0] 5))
 have E:=Qe<|QkI w4 0 0 5
 have f:dm (w.heap.size+1<=(w4.alloc (.cells #[.int .u8 0,.int .u8 0] 5)).heap.size):=F.u.lt;have m:=Qe<|Qi.based K.u
 clear y i d;go_wp2_with (at_builtin;refine Qm _ rfl _ _ 22 rfl (w.heap.size+1) 5 i0 (.int .u8 0) 1 underlying22 hi af ak aq rfl (.slice a4 L4.length c4) L4.length (L4.map (Value.int .u8)) rfl K.u (some ⟨w4.heap.size,0,none⟩) 2 [0,0] rfl E.u (fun e=>dx) dK du f.u ?_)
 intro v w5 R Q aa;rw [show L4.map (Value.int .u8)++[Value.int .u8 0,Value.int .u8 0]=(L4++[0,0]).map (Value.int .u8) from dr] at R;obtain ⟨a5,c5,rfl,ho⟩:=Qi.of R;rw [QA] at Q;refine gn ?_;intro i d;obtain ⟨B,b⟩:=dt (L4++[0,0]);have aB:B.length<=180000:=gp;rw [b] at ho ⊢;have T:=Qe b;have y:=Qe ho;clear R Q aa ho b K l F f m;clear b0 b1 b2 Z H b5 b6 b7 E;obtain ⟨b0,b1,b2,Z,H,b5,b6,b7⟩:=d.u;have R5:=Qe<|HR.u.beneath i.u ai.u
 go_wp2_with fail;refine Calls.mono (EF.u _ R5.u) ?_;rintro e S ⟨p,A,rfl,j,o⟩;refine jb ?_;intro l F K k f m;clear o j y i d b0 b1 b2 Z H b5 b6 b7;go_wp2_with (at_builtin;refine Qm _ rfl _ _ 22 rfl (w.heap.size+1) 5 i0 (.int .u8 0) 1 underlying22 hi af ak aq rfl (.slice a5 B.length c5) B.length (B.map (Value.int .u8)) rfl K.u p A P rfl k.u.row k.u.nil_len dK du f.u ?_)
 intro v w6 R Q aa;rw [<-List.map_append] at R;obtain ⟨a6,c6,rfl,ho⟩:=Qi.of R;rw [QA] at Q;refine gn ?_;intro i d;obtain ⟨L6,b⟩:=dt (B++P);have a1:L6.length<=210000:=gp;rw [b] at ho ⊢;have V:=Qe b;have y:=Qe ho;clear R Q aa ho b K l F f m;obtain ⟨b0,b1,b2,Z,H,b5,b6,b7⟩:=d.u;have R6:=Qe<|HR.u.beneath i.u ai.u
 go_wp2_with fail;refine Calls.mono (CR.u _ R6.u) ?_;rintro e wq ⟨rfl,ae⟩;obtain rfl:=ae.symm;go_wp2_with fail;refine Calls.mono (s.u _) ?_;rintro e S ⟨p,A,rfl,j,o⟩;refine jb ?_;intro l F K k f m;clear o j y i d b0 b1 b2 Z H b5 b6 b7;go_wp2_with (at_builtin;refine Qm _ rfl _ _ 22 rfl (w.heap.size+1) 5 i0 (.int .u8 0) 1 underlying22 hi af ak aq rfl (.slice a6 L6.length c6) L6.length (L6.map (Value.int .u8)) rfl K.u p A aw rfl k.u.row k.u.nil_len dK du f.u ?_)
 intro v w7 R Q aa;rw [<-List.map_append] at R;obtain ⟨a7,c7,rfl,ho⟩:=Qi.of R;rw [QA] at Q;refine gn ?_;intro i d;obtain ⟨L7,b⟩:=dt (L6++aw);have aE:L7.length<=240000:=gp;rw [b] at ho ⊢;have ab:=Qe b;have y:=Qe ho;clear R Q aa ho b K l F f m;obtain ⟨b0,b1,b2,Z,H,b5,b6,b7⟩:=d.u;go_wp2_with fail;refine Calls.mono (I.u _) ?_;rintro e S ⟨p,A,rfl,j,o⟩;refine jb ?_;intro l F K k f m;clear o j y i d b0 b1 b2 Z H b5 b6 b7;go_wp2_with (at_builtin;refine Qm _ rfl _ _ 22 rfl (w.heap.size+1) 5 i0 (.int .u8 0) 1 underlying22 hi af ak aq rfl (.slice a7 L7.length c7) L7.length (L7.map (Value.int .u8)) rfl K.u p A BN rfl k.u.row k.u.nil_len dK du f.u ?_)
 intro v w8 R Q aa;rw [<-List.map_append] at R;obtain ⟨a8,c8,rfl,ho⟩:=Qi.of R;rw [QA] at Q;refine gn ?_;intro i d;obtain ⟨L8,b⟩:=dt (L7++BN);have aG:L8.length<=270000:=gp;rw [b] at ho ⊢;have az:=Qe b;have y:=Qe ho;clear R Q aa ho b K l F f m;obtain ⟨b0,b1,b2,Z,H,b5,b6,b7⟩:=d.u;have aj:dm (L8=gcode zs):=by
  show _=_;unfold gcode;rw [<-az.u,<-ab.u,<-V.u,<-T.u,<-G.u,<-ag.u,HP.u,HX.u,aA.u,a2.u,<-av.u];simp only [List.append_assoc];rfl
 clear ag G T V ab az;go_wp2_with fail;go_ret;have ar:=aj.u;subst ar;exact ⟨a8,c8,rfl,y.u.mono dk,i.u⟩
section
variable{z q:Nat}{zs:List Int}
theorem Qdu(ao bo:Option Addr)(ca cb:Nat)(zs ys:List Int)(w:World)(ha:Q1 w ao zs)(hb:Q1 w bo ys):
  Calls prog 7 #[.slice ao zs.length ca,.slice bo ys.length cb] w fun e w'=>∃b,e=.returned (.bool b)/\w'=w:=by
 have J:=QdI w ao ca zs ha;have h2:=QdI w bo cb ys hb;clear ha hb;generalize strOfNums zs=S at*;generalize strOfNums ys=T at*;go_enter func7,ntmps7;go_wp2_with fail;go_ret;exact ⟨_,rfl,rfl⟩
theorem QnC(a b:Int)(h1:0<=a/\a<=255)(h2:0<=b/\b<=255):0<=bits .xor .u8 a b/\bits .xor .u8 a b<=255:=by
 rw [u8_xor a b h1.1 dk h2.1 dk];have:=Nat.xor_lt_two_pow (x:=a.toNat) (y:=b.toNat) (n:=8) du du;omega
theorem Qln{A:List Int}(h:Qh A)(p:Nat){v:Int}(hv:0<=v/\v<=255):Qh (A.set p v):=fun x hx=>by
 rcases List.mem_or_eq_of_mem_set hx with h1|h1
 ·exact h x h1
 ·subst h1;exact hv
theorem Qox{d:List Int}{cf:ZC}(hz:Qh zs)(hd:Qh d)(hl:zs.length<=63):∀c,ZOK zs d c->c.bad=false->(c.ph=3->c.ic.u.length<=65536/\Qh c.ic.u)->Vo (VZ z q) (VR zs d) c 1 cf->cf.ic.u.length<=65536/\Qh cf.ic.u:=by
 rintro c A hb O ⟨n,M⟩;have f:zs.length<=65536:=dk;induction n generalizing c with
 | zero=>exact M.elim
 | succ n ih=>
  rcases M with ⟨J,_,rfl⟩|⟨J,E⟩|⟨J,c',E,h3⟩
  ·exact sH
  ·exfalso
   cases h:Qs zs d c with
   | inl c'=>
    rw [Vp f A hb h] at E;cases E
   | inr x=>
    exact sI
  ·obtain ⟨g1,g2⟩:=QdP E
   obtain ⟨q1,_⟩:=Qeq g1;refine ih c' (Vn f A hb g1).1 q1 (fun e3=>?_) h3;unfold Qs at g1;by_cases H:c.ph=0
   ·rw [if_pos H] at g1
    repeat' (split at g1)
    all_goals first|(cases g1;done)|(injection g1 with g1;subst g1;have:(1:Nat)=3:=e3;omega)|(injection g1 with g1;subst g1;have:(2:Nat)=3:=e3;omega)
   rw [if_neg H] at g1;by_cases m:c.ph=1
   ·rw [if_pos m] at g1
    repeat' (split at g1)
    all_goals first|(cases g1;done)|(injection g1 with g1;subst g1;have:(2:Nat)=3:=e3;omega)
   rw [if_neg m] at g1;by_cases h2:c.ph=2
   ·rw [if_pos h2] at g1
    obtain ⟨hW,P⟩:=A.p2 hb h2;split at g1
    ·split at g1
     ·injection g1 with g1;subst g1;have:(2:Nat)=3:=e3;omega
     ·cases g1
    ·rename_i a
     split at g1
     ·split at g1
      ·injection g1 with g1
       subst g1;exact Qf0 hz hd hl c.sz c.ic P iV
      ·cases g1
     ·cases g1
   rw [if_neg h2] at g1;cases g1
theorem QnJ{k:Int}{cf:GC}(hz:Qh zs)(hzl:zs.length<=63)(hE:Vo (VD z q) (QT zs) gc0 k cf):cf.ic.u.length<=65536/\Qh cf.ic.u:=by
 obtain ⟨c,A,hb,E⟩:=Qle hz hzl gc0 (Qfz zs) rfl hE;obtain ⟨_,a⟩:=Qfr E;have a:cf=Qy c:=a;subst a;have J:=A.ob;have h2:=A.le;exact ⟨by show c.ic.u.length<=_;omega,A.oo⟩
theorem Qne{K:Int}{cz:ZC}(ao bo:Option Addr)(cap cb:Nat)(zs d:List Int)(w:World)(hr:Q1 w ao zs)(hrb:∀ad,ao=some ad->ad.block<w.heap.size)(hz:Qh zs)(hl:zs.length<=65536)(ha:Arg w bo cb d)(hd:Qh d)(hdl:d.length<=65536)(hE:Vo (VZ z q) (VR zs d) zc0 K cz):
  Calls prog 13 #[.slice ao zs.length cap,.slice bo d.length cb] w fun e w'=>∃(a:Option Addr) (n c:Nat) (N:Int),e=.returned (.agg #[.int .i64 K,.slice a n c,.int .i64 N])/\Below w.heap.size w w':=by
 obtain ⟨k,b,J,h2,h3⟩:=Qqt hz hd hl hE;refine Calls.mono (Ql9 ao bo cap cb zs d k b w hr hrb hz hl ha hd hdl J h2) ?_;rintro e w' ⟨i4,c4,a,c,N,rfl,g1,g2,hb⟩;rw [h3 i4 c4 g1 g2];exact ⟨a,_,c,N,rfl,hb⟩
theorem QgK(zs:List Int)(h:zs.length<30):(gcode zs).length<=63/\10<=(gcode zs).length:=by
 have J:=Qaj zs zs.length;have h2:=Qa0 256;have h3:=QaB<|Qr zs
 have h4:(Qr zs).length<=300:=by
  unfold Qr;rw [List.length_append];omega
 unfold gcode;simp only [List.length_append,QN];have U:gH0.length=10:=rfl;omega
theorem QgO(zs:List Int):Qh (gcode zs):=by
 have p:∀x y:List Int,Qh x->Qh y->Qh (x++y):=fun x y hx hy v hv=>by
  exact su
 unfold gcode;exact p _ _ QdM (p _ _ (QbN _ (Qaw zs)) (p _ _ (Qbw _ _) (Qbw _ _)))
theorem Qfl(d zs:List Int)(h:zs.length<30):(zcode 7 d zs).length<=63/\2<=(zcode 7 d zs).length:=by
 have J:=Qaj zs zs.length;have h2:=Qa0 256;have h3:=QaB<|Qr zs
 have h4:(Qr zs).length<=300:=by
  unfold Qr;rw [List.length_append];omega
 by_cases hd:d=[]
 ·rw [hd,QfM]
  exact iY
 ·rw [QdO 7 d zs hd]
  exact iY
end
theorem jg{P:Prop}(h:P:=by go_wp2_with fail;go_meet;exact ⟨rfl,Qe rfl⟩):P:=h
theorem QqQ(co mo:Option Addr)(n cc m cm:Nat)(w:World)(hn:n<=9223372036854775807)(hbig:1048576<n):
  Calls prog 3 #[.slice co n cc,.slice mo m cm] w fun e w'=>e=.returned (.bool true)/\Below w.heap.size w w':=by
 go_enter func3,ntmps3;exact lp
theorem Qqg(co mo:Option Addr)(n cc m cm:Nat)(w:World)(hm:m<=9223372036854775807)(hn:n<=1048576)(hbig:1048576<m):
  Calls prog 3 #[.slice co n cc,.slice mo m cm] w fun e w'=>e=.returned (.bool true)/\Below w.heap.size w w':=by
 go_enter func3,ntmps3;exact lp
theorem Qnp(v0 v1 v2 v3:Value)(W:World):Sem.run prog (Instr.field 36 (.agg #[v0,v1,v2,v3]) 0) W=.ok v0 W:=by
 simp [Instr.field,go_sem,asAgg]
theorem Ql1(ao bo:Option Addr)(cap cb:Nat)(d zs:List Int)(p:Nat)(v:Int)(BA BD:Nat)(w:World)(hz:Qh zs)(hl:zs.length<30)(hd:Qh d)(hdl:d.length<=16)(ho:Qh ((zcode 7 d zs).set p v))(hA:Qah BA w ao cap ((zcode 7 d zs).set p v))(hD:Qah BD w bo cb d)(hG:QfE w):
  Calls prog 11 #[.slice ao ((zcode 7 d zs).set p v).length cap,.slice bo d.length cb] w fun e w'=>∃(K N:Int) (out:List Int),QpQ K out N e w w'/\(∀W (a2 b2:Option Addr) (c2 c3:Nat),Q1 W a2 ((zcode 7 d zs).set p v)->(∀ad,a2=some ad->ad.block<W.heap.size)->Arg W b2 c3 d->Calls prog 13 #[.slice a2 ((zcode 7 d zs).set p v).length c2,.slice b2 d.length c3] W fun e w'=>∃(a:Option Addr) (n c:Nat) (N:Int),e=.returned (.agg #[.int .i64 K,.slice a n c,.int .i64 N])/\Below W.heap.size W w')/\(K=1->out.length<=65536/\Qh out/\(N=((zcode 7 d zs).length:Int)->Adl.adl out=Adl.adl zs)):=by
 have ai:=Qfl d zs hl;have O:((zcode 7 d zs).set p v).length<=63:=gl;refine Calls.mono (Qmo ao bo cap cb ((zcode 7 d zs).set p v) d w hA.row hA.nil_len ho dk hd dk hD.row hD.fits hD.most (fun ad e=>(hD.lies ad e).2.1) hG (Qf0 ho hd O)) ?_;rintro e w' ⟨z,q,k,b,hE,h⟩;refine ⟨k,_,b.ic.u,h,fun W a2 b2 c2 c3 J h2 h3=>Qne a2 b2 c2 c3 _ d W J h2 ho dk h3 hd dk hE,fun hk=>?_⟩;subst hk;obtain ⟨J,h2⟩:=Qox ho hd O zc0 (QfV _ d) rfl (fun e=>by have:(0:Nat)=3:=e;omega) hE;exact ⟨J,h2,fun hN=>Qok hz dk ho hE hN⟩
theorem Qml(gb cap:Nat)(zs:List Int)(p:Nat)(v:Int)(BA:Nat)(w:World)(hz:Qh zs)(hl:zs.length<30)(ho:Qh ((gcode zs).set p v))(hA:Qah BA w (some ⟨gb,0,none⟩) cap ((gcode zs).set p v))(hG:QfE w)(hM:Qbq w):
  Calls prog 12 #[.slice (some ⟨gb,0,none⟩) ((gcode zs).set p v).length cap] w fun e w'=>∃(K:Int) (nm:Nat) (out:List Int),Qr0 K out nm e w w'/\(∀W,Q1 W (some ⟨gb,0,none⟩) ((gcode zs).set p v)->gb<W.heap.size->Calls prog 14 #[.slice (some ⟨gb,0,none⟩) ((gcode zs).set p v).length cap] W fun e w'=>SGz K W e w')/\out.length<=65536/\Qh out/\(K=1->nm=1->crcU 0 out=crcU 0 zs):=by
 have ai:=QgK zs hl;have O:((gcode zs).set p v).length<=63:=gl;refine Calls.mono (Ql5 _ cap ((gcode zs).set p v) w hA.row hA.nil_len ho O hG hM) ?_;rintro e w' ⟨z,q,k,b,hE,h⟩;obtain ⟨J,h2⟩:=QnJ ho O hE;exact ⟨QbG k b,b.nm,b.ic.u,h,fun W g1 g2=>QlY gb 0 cap _ z q k b W g1 g2 ho O hA.fits hA.most hE,J,h2,fun hk hn=>QnQ hz dk ai.1 ho hE hk hn⟩
theorem Qi.spot{e B g k:Nat}{w:World}{cap:Nat}{zs:List Int}(h:Qi e B w (some ⟨g,0,none⟩) cap zs)(hk:k<zs.length):w.cell? ⟨g,k,none⟩=some (.int .u8 (zs.getD k 0))/\w.frozen? ⟨g,k,none⟩=false/\g<w.heap.size/\B<=g:=by
 refine ⟨h.cell hk,?_,h.lower2 g rfl,h.based g rfl⟩;have:=h.mine.free ⟨g,0,none⟩ rfl k hk;simpa using this
theorem Qsh(co mo:Option Addr)(cc cm:Nat)(cs ms:List Int)(w:World)(hr:Q1 w co cs)(hoct:Qh cs)(hn:cs.length<=1048576)(hrm:Q1 w mo ms)(hom:Qh ms)(hnm:ms.length<=1048576)(hG:QfE w)(hM:Qbq w):
  Calls prog 3 #[.slice co cs.length cc,.slice mo ms.length cm] w fun e w'=>e=.returned (.bool true)/\Below w.heap.size w w':=by
 have HG:=Qe hG;have HM:=Qe hM;have H:=hG.sz;have DR:=Qe<|Qj7 co cc cs w hr hoct hn
 have bJ:dm (∀W,Below w.heap.size w W->Calls prog 10 #[.slice mo ms.length cm,.int .i64 0] W fun e w'=>(∃x:Nat,e=.returned (.int .i64 x)/\x<=255)/\w'=W):=fun W hW=>by
  refine Calls.mono (Qjg mo cm ms 0 W (hrm.below hW) hom dk) ?_;exact sZ
 have cj:dm (∀W,Below w.heap.size w W->Calls prog 10 #[.slice mo ms.length cm,.int .i64 1] W fun e w'=>(∃x:Nat,e=.returned (.int .i64 x)/\x<=255)/\w'=W):=fun W hW=>by
  refine Calls.mono (Qjg mo cm ms 1 W (hrm.below hW) hom dk) ?_;exact sZ
 clear hr hoct hG hM hrm hom;generalize ms.length=dd at*;go_enter func3,ntmps3;go_wp2_with fail;refine Calls.mono DR.u ?_;rintro e w1 ⟨C,cD,f,cR,Q,cb,d,rfl,c5,bh,aQ,cz,bs,cO,cq,aj⟩;have M:=Qe c5.mine;have E1:=Qe cz.mine;have ay:=Qe bh;have aW:=Qe bs;have L1:=Qe aj;have EZ:dm (Calls prog 5 #[.slice C f.length cD,.int .i64 7,.slice Q d.length cb] w1 fun e w'=>∃a' c',e=.returned (.slice a' (zcode 7 d f).length c')/\Qi 5 w1.heap.size w' a' c' (zcode 7 d f)/\Below w1.heap.size w1 w'):=Ql8 7 C Q cD cb f d w1 dk M.u.row ay.u M.u.fits dk (fun ad e _=>(M.u.lies ad e).2.1) E1.u.row aW.u E1.u.fits dk (fun ad e _=>(E1.u.lies ad e).2.1);have SZ:dm (∀W,Qah w.heap.size W C cD f->Qah w.heap.size W Q cb d->Calls prog 8 #[.slice C f.length cD,.int .i64 7,.slice Q d.length cb] W fun e w'=>∃a' c',e=.returned (.slice a' (zcode 7 d f).length c')/\Qi 5 W.heap.size w' a' c' (zcode 7 d f)/\Below W.heap.size W w'):=fun W hD hE=>QlV 7 C Q cD cb f d W dk hD.row ay.u dk (fun ad e _=>(hD.lies ad e).2.1) hE.row aW.u dk (fun ad e _=>(hE.lies ad e).2.1)
 have EG:dm (∀W,Qah w.heap.size W C cD f->Below w.heap.size w W->Calls prog 6 #[.agg #[.int .i64 0,.int .i64 0,.int .i64 0,.int .i64 0,.slice none 0 0,.slice none 0 0,.slice none 0 0,.int .i64 (f.length:Nat)],.slice C f.length cD] W fun e w'=>∃a c,e=.returned (.slice a (gcode f).length c)/\Qi 5 W.heap.size w' a c (gcode f)/\Below W.heap.size W w'):=fun W hD hW=>Qqh C cD f W (HM.u.below hW H) (Nat.le_trans H hW.size) hD.row ay.u dk (fun ad e _=>(hD.lies ad e).2.1)
 have SG:dm (∀W,Qah w.heap.size W C cD f->Calls prog 9 #[.agg #[.int .i64 0,.int .i64 0,.int .i64 0,.int .i64 0,.slice none 0 0,.slice none 0 0,.slice none 0 0,.int .i64 (f.length:Nat)],.slice C f.length cD] W fun e w'=>∃a c,e=.returned (.slice a (gcode f).length c)/\Qi 5 W.heap.size w' a c (gcode f)/\Below W.heap.size W w'):=fun W hD=>Qrf C cD f W hD.row ay.u dk (fun ad e _=>(hD.lies ad e).2.1)
 have ZP:=Qe (fun ao cap p v BA W (hv:0<=v/\v<=255)=>Ql1 ao Q cap cb d f p v BA w.heap.size W ay.u aQ aW.u cO (Qln (QgL 7 d f dn) p hv));have GP:=Qe (fun gb cap p v BA W (hv:0<=v/\v<=255)=>Qml gb cap f p v BA W ay.u aQ (Qln (QgO f) p hv));have aP:=Qfl d f aQ;have aF:=QgK f aQ;have ah:=Qe<|QgL 7 d f dn
 have a8:=Qe<|QgO f
 generalize zcode 7 d f=A at*;generalize gcode f=G at*;clear c5 cz bh bs aj DR cq;go_wp2_with fail;refine Calls.mono EZ.u ?_;rintro e w2 ⟨aA,cA,rfl,bA,aU⟩;obtain ⟨gA,rfl,bw,cP,_⟩:=bA.at dk;have A2:=Qe bA;have D2:=Qe<|M.u.below aU
 have E2:=Qe<|E1.u.below aU
 have L2:=Qe<|L1.u.trans (aU.mono L1.u.size)
 have s:=L1.u.size;have aH:dm (∀ad,C=some ad->ad.block<gA):=fun ad e=>Nat.lt_of_lt_of_le (M.u.lies ad e).2.1 bw
 have bH:dm (∀ad,Q=some ad->ad.block<gA):=fun ad e=>Nat.lt_of_lt_of_le (E1.u.lies ad e).2.1 bw
 have c4:=Qe<|EG.u w2 D2.u L2.u
 clear bA aU EZ EG M E1 L1;go_wp2_with fail;refine Calls.mono c4.u ?_;rintro e w3 ⟨aG,cG,rfl,bG,aO⟩;obtain ⟨gG,rfl,cU,cQ,_⟩:=bG.at dk;have A3:=Qe<|Qi.below A2.u aO
 have G3:=Qe bG;have D3:=Qe<|D2.u.below aO
 have o:=Qe<|E2.u.below aO
 have D:=Qe<|L2.u.trans (aO.mono L2.u.size)
 have dh:gA<gG:=dk;have cH:=Qe<|SZ.u w3 D3.u o.u
 clear bG aO c4 A2 D2 E2 L2 SZ;go_wp2_with fail;refine Calls.mono cH.u ?_;rintro e w4 ⟨aS,cS,rfl,cI,aw⟩;have A4:=Qe<|Qi.below A3.u aw
 have G4:=Qe<|Qi.below G3.u aw
 have D4:=Qe<|D3.u.below aw
 have E4:=Qe<|o.u.below aw
 have L4:=Qe<|D.u.trans (aw.mono D.u.size)
 have bV:=Qe<|QdB (some ⟨gA,0,none⟩) aS cA cS A w4 A4.u.mine.row cI.mine.row
 clear cI aw cH A3 G3 D3 o D;go_wp2_with fail;refine Calls.mono bV.u ?_;rintro e dg ⟨rfl,aC⟩;obtain rfl:=aC.symm;have ck:=Qe<|SG.u w4 D4.u
 clear bV SG;go_wp2_with fail;refine Calls.mono ck.u ?_;rintro e w5 ⟨aT,cT,rfl,ch,ab⟩;have A5:=Qe<|Qi.below A4.u ab
 have G5:=Qe<|Qi.below G4.u ab
 have D5:=Qe<|D4.u.below ab
 have E5:=Qe<|E4.u.below ab
 have B:=Qe<|L4.u.trans (ab.mono L4.u.size)
 have cx:=Qe<|QdB (some ⟨gG,0,none⟩) aT cG cT G w5 G5.u.mine.row ch.mine.row
 clear ch ab ck A4 G4 D4 E4 L4;go_wp2_with fail;refine Calls.mono cx.u ?_;rintro e db ⟨rfl,R⟩;obtain rfl:=R.symm;have cy:=Qe<|cj.u w5 B.u
 clear cx;go_wp2_with fail;refine Calls.mono cy.u ?_;rintro e w6 ⟨⟨u,rfl,aV⟩,ar⟩;obtain rfl:=ar.symm;obtain ⟨r1,aq⟩:=dt (u%255);have aE:(u:Int)%255=(r1:Int):=dk;have a7:IntKind.u8.wrap (1+(r1:Int))=1+(r1:Int):=dV;have bW:=Qe<|bJ.u w5 B.u
 clear cy aq;go_upto_region 9 with fail;obtain ⟨ZA,bM⟩:=dt A.length;obtain ⟨ZG,bL⟩:=dt G.length;rw [bM] at aP ⊢;rw [bL] at aF ⊢;have c7:=Qe bM;have cf:=Qe bL;have b3:ZA≠0:=dk;have de:ZG≠0:=dk;obtain ⟨X,hX⟩:∃X:Int,1+(r1:Int)=X:=⟨_,rfl⟩;have bP:0<=X/\X<=255:=dk;rw [hX] at a7 ⊢;clear bM bL hX aE aV;go_wp2_with fail;refine Calls.mono bW.u ?_;rintro e w6 ⟨⟨F,rfl,cd⟩,ar⟩;obtain rfl:=ar.symm;obtain ⟨p1,m⟩:=dt (F%ZA);have bt:p1<ZA:=by rw [<-m];exact Nat.mod_lt _ dk
 have bx:(F:Int)%(ZA:Int)=(p1:Int):=by rw [<-m];omega
 have cM:(F:Int).tmod (ZA:Int)=(p1:Int):=by rw [Int.tmod_eq_emod_of_nonneg dk];exact bx
 obtain ⟨v1,bE⟩:=dt (A.getD p1 0);obtain ⟨c1,f1,I,_⟩:=Qi.spot A5.u (k:=p1) (by rw [c7.u];exact bt);rw [bE] at c1;have bl:0<=v1/\v1<=255:=by rw [<-bE];exact ah.u.getD _
 obtain ⟨V1,av⟩:=dt (bits .xor .u8 v1 X);have bu:0<=V1/\V1<=255:=by rw [<-av];exact QnC v1 X bl bP
 have g7:=Qf w5 ⟨gA,p1,none⟩ (.int .u8 V1);have A7:=Qe<|Qi.set A5.u p1 V1
 have G7:=Qe<|Qi.grown G5.u g7 s4
 have D7:=Qe<|D5.u.grown g7 s5
 have E7:=Qe<|E5.u.grown g7 s9
 have L7:=Qe<|B.u.grown g7 B.u.size dz
 clear m bE bW A5 G5 D5 E5 B g7;go_upto_region 10 with fail;clear c1 f1 I av bt bx cM bl a7 cd;generalize w5.setCell ⟨gA,p1,none⟩ (.int .u8 V1)=W7 at*;have cF:=Qe<|bJ.u W7 L7.u
 go_wp2_with fail;refine Calls.mono cF.u ?_;rintro e w6 ⟨⟨y2,rfl,ct⟩,ar⟩;obtain rfl:=ar.symm;obtain ⟨Z,au⟩:=dt (y2%ZG);have bk:Z<ZG:=by rw [<-au];exact Nat.mod_lt _ dk
 have bn:(y2:Int)%(ZG:Int)=(Z:Int):=by rw [<-au];omega
 have bZ:(y2:Int).tmod (ZG:Int)=(Z:Int):=by rw [Int.tmod_eq_emod_of_nonneg dk];exact bn
 obtain ⟨v2,al⟩:=dt (G.getD Z 0);obtain ⟨c2,f2,ag,_⟩:=Qi.spot G7.u (k:=Z) (by rw [cf.u];exact bk);rw [al] at c2;have bj:0<=v2/\v2<=255:=by rw [<-al];exact a8.u.getD _
 obtain ⟨V2,ae⟩:=dt (bits .xor .u8 v2 X);have bd:0<=V2/\V2<=255:=by rw [<-ae];exact QnC v2 X bj bP
 have Y:=Qf W7 ⟨gG,Z,none⟩ (.int .u8 V2);have A8:=Qe<|Qi.grown A7.u Y s4
 have G8:=Qe<|Qi.set G7.u Z V2
 have D8:=Qe<|D7.u.grown Y s5
 have E8:=Qe<|E7.u.grown Y s9
 have L8:=Qe<|L7.u.grown Y L7.u.size dz
 clear au al cF A7 G7 D7 E7 L7 Y;go_upto_region 11 with fail;clear c2 f2 ag ae bk bn bZ bj ct bJ cj;generalize W7.setCell ⟨gG,Z,none⟩ (.int .u8 V2)=W8 at*;have b8:=Qe<|ZP.u (some ⟨gA,0,none⟩) cA p1 V1 _ W8 bu A8.u.mine E8.u (HG.u.below L8.u H)
 have bK:=Qe (fun W hm=>GP.u gG cG Z V2 w2.heap.size W bd hm);rw [List.length_set,c7.u] at b8;simp only [List.length_set,cf.u] at bK;have cL:=Qe A8.u.mine;have c8:=Qe G8.u.mine;generalize A.set p1 V1=AA at*;generalize G.set Z V2=GG at*;clear ZP GP A8 G8 ah a8 bu bd bP;go_wp2_with fail;refine Calls.mono b8.u ?_;rintro e w9 ⟨K,N,aN,⟨aX,cX,rfl,bT,a6⟩,l,cE⟩;have ai:=Qe l;have b4:=Qe cE;have ax:Below w9.heap.size w9 (w9.alloc (.cells #[.int .i64 K,.slice aX aN.length cX,.int .i64 N] 32)):=(Below.refl _ _).alloc (Nat.le_refl _) _;have ba:=Qe<|Qdr w9 (.int .i64 K) (.slice aX aN.length cX) (.int .i64 N) 32
 have cw:=Qe<|(cL.u.below a6).below ax
 have bR:=Qe<|(c8.u.below a6).below ax
 have D9:=Qe<|(D8.u.below a6).below ax
 have P:=Qe<|(E8.u.below a6).below ax
 have X9:=Qe<|bT.mine.below ax
 have aB:=L8.u.trans<|a6.mono L8.u.size
 have L9:=Qe<|aB.trans (ax.mono aB.size)
 clear l cE bT a6 ax aB b8 cL c8 D8 E8 L8;go_upto_region 12 with fail;obtain ⟨pr,cv⟩:=dt w9.heap.size;rw [cv] at ba ⊢;generalize w9.alloc (.cells #[.int .i64 K,.slice aX aN.length cX,.int .i64 N] 32)=W9 at*;clear cv;have bB:pr<W9.heap.size:=World.block_lt_of_cell? _ _ ba.u.c0;have cK:=Qe<|bK.u W9 bR.u (HG.u.below L9.u H) (HM.u.below L9.u H)
 clear bK;go_wp2_with fail;refine Calls.mono cK.u ?_;rintro e ak ⟨K2,j,t,⟨aY,cY,am,b6,U,rfl,ca,T⟩,l,O,S,hC⟩;have bD:=Qe l;have an:=Qe S;have HC:=Qe hC;have z:=Qe O;have h:Below ak.heap.size ak (ak.alloc (.cells #[.int .i64 K2,.slice aY t.length cY,.slice am j b6,.int .i64 U] 36)):=(Below.refl _ _).alloc (Nat.le_refl _) _;have a2:=Qe<|Qd6 ak (.int .i64 K2) (.slice aY t.length cY) (.slice am j b6) (.int .i64 U) 36
 have a1:=Nat.lt_of_lt_of_le bB T.size;have aI:=Qe<|(ba.u.below T bB).below h a1
 have aK:=Qe<|(cw.u.below T).below h
 have bq:=Qe<|(bR.u.below T).below h
 have cJ:=Qe<|(D9.u.below T).below h
 have c6:=Qe<|(P.u.below T).below h
 have cC:=Qe<|(X9.u.below T).below h
 have cl:=Qe<|ca.mine.below h
 have aJ:=L9.u.trans<|T.mono L9.u.size
 have b9:=Qe<|aJ.trans (h.mono aJ.size)
 clear l O S hC ca T h aJ cK cw bR D9 P X9 L9 ba;go_upto_region 13 with fail;obtain ⟨ps,E⟩:=dt ak.heap.size;rw [E] at a2 a1 ⊢;generalize ak.alloc (.cells #[.int .i64 K2,.slice aY t.length cY,.slice am j b6,.int .i64 U] 36)=bQ at*;clear E bB;have bz:ps<bQ.heap.size:=World.block_lt_of_cell? _ _ a2.u.c0;have b1:pr<bQ.heap.size:=World.block_lt_of_cell? _ _ aI.u.c0;have cu:=Qe<|ai.u bQ (some ⟨gA,0,none⟩) Q cA cb aK.u.row (fun ad e=>(aK.u.lies ad e).2.1) c6.u.arg
 clear ai aK c6;go_wp2_with fail;refine Calls.mono cu.u ?_;rintro e a5 ⟨q,n3,c3,N3,rfl,g⟩;have i:Below a5.heap.size a5 (a5.alloc (.cells #[.int .i64 K,.slice q n3 c3,.int .i64 N3] 32)):=(Below.refl _ _).alloc (Nat.le_refl _) _;have L:=Qe<|Qdr a5 (.int .i64 K) (.slice q n3 c3) (.int .i64 N3) 32
 have bp:=Nat.lt_of_lt_of_le bz g.size;have b0:=Nat.lt_of_lt_of_le b1 g.size;have RZ:=Qe<|(aI.u.below g b1).below i b0
 have RG:=Qe<|(a2.u.below g bz).below i bp
 have MG:=Qe<|(bq.u.below g).below i
 have DD:=Qe<|(cJ.u.below g).below i
 have XX:=Qe<|(cC.u.below g).below i
 have YY:=Qe<|(cl.u.below g).below i
 have bI:=b9.u.trans<|g.mono b9.u.size
 have LL:=Qe<|bI.trans (i.mono bI.size)
 clear g i bI cu bq cJ cC cl b9 aI a2 a1;go_upto_region 14 with fail;obtain ⟨pw,aa⟩:=dt a5.heap.size;rw [aa] at L bp b0 ⊢;generalize a5.alloc (.cells #[.int .i64 K,.slice q n3 c3,.int .i64 N3] 32)=aZ at*;clear aa;have bO:dm (∀W,Below aZ.heap.size aZ W->Calls prog 14 #[.slice (some ⟨gG,0,none⟩) ZG cG] W fun e w'=>SGz K2 W e w'):=fun W hW=>by
  exact bD.u W (MG.u.row.below hW) (Nat.lt_of_lt_of_le (MG.u.lies ⟨gG,0,none⟩ rfl).2.1 hW.size)
 go_cut [99] from 14 to 148 (fun x wx=>x=.bool false/\dm (Below aZ.heap.size aZ wx))
 case first=>
  as_aux_lemma=>
   obtain ⟨p0,_,_,_⟩:=RZ.u;obtain ⟨V,_,_,_⟩:=L.u;obtain ⟨s0,_,_,_,_⟩:=RG.u;have zr:=World.block_lt_of_cell? _ _ RZ.u.c0;have zw:=World.block_lt_of_cell? _ _ L.u.c0;have zg:=World.block_lt_of_cell? _ _ RG.u.c0;have FZ:=Qnp;clear b4 HC ay aW HG HM aH bH z an DD XX YY LL MG bD;go_region_with (go_at_call 14;refine Calls.mono (bO.u _ fv) ?_;rintro e wk ⟨a9,n9,c9,cW,dc,da,U9,rfl,aR⟩;have a4:Below aZ.heap.size aZ wk:=(by first|exact aR|exact (Below.refl _ _).drew.trans aR|exact (Qo _ _ _).trans aR);have:=(RG.u.below a4 zg).c0)
   all_goals
    clear bO FZ RZ L RG;go_wp2_with fail;go_meet;exact ⟨rfl,Qe (by first|exact a4|exact a4.drew|exact a4.trans (Qo _ _ _))⟩
 case rest=>
 obtain ⟨rfl,az⟩:=hcut;have az:=az.u;have bU:=Qe<|RZ.u.below az (World.block_lt_of_cell? _ _ RZ.u.c0)
 have cB:=Qe<|RG.u.below az (World.block_lt_of_cell? _ _ RG.u.c0)
 have bb:=Qe<|DD.u.below az
 have bF:=Qe<|XX.u.below az
 have b':=Qe<|YY.u.below az
 have bc:=Qe<|LL.u.trans (az.mono LL.u.size)
 clear az RZ RG DD XX YY LL L MG bO bD;go_upto_region 16 with fail;go_cut [124] from 14 to 148 (fun x wx=>x=.bool false/\dm (wx=wc))
 case first=>
  as_aux_lemma=>
   obtain ⟨p0,df,cV,_⟩:=bU.u;have bN:=Qe<|Qdu aX C cX cD aN f wc bF.u.row bb.u.row
   by_cases hK:K=1
   ·subst hK
    by_cases hN:N=(ZA:Int)
    ·subst hN
     obtain ⟨q1,q2,q3⟩:=b4.u rfl;have bf:=q3 rfl;have b5:=Qe<|QbS aX cX aN wc bF.u.row q2 dk
     have bX:=Qe<|QbS C cD f wc bb.u.row ay.u dk
     rw [bf] at b5;obtain ⟨YA,cp⟩:=dt (Adl.adl f);rw [cp] at b5 bX;clear q1 q2 q3 bf cp;go_wp2_with fail;refine Calls.mono bN.u ?_;rintro e bC ⟨b,rfl,aL⟩;obtain rfl:=aL.symm;cases b with
     | true=>
      exact jg
     | false=>
      go_wp2_with fail;refine Calls.mono b5.u ?_;rintro e br ⟨rfl,aM⟩;obtain rfl:=aM.symm;go_wp2_with fail;refine Calls.mono bX.u ?_;rintro e cn ⟨rfl,af⟩;obtain rfl:=af.symm;exact jg
    ·have bS:(N == (ZA:Int))=false:=by simp [hN]
     clear hN;exact jg
   ·have cN:(K == 1)=false:=by simp [hK]
    clear hK;exact jg
 case rest=>
 obtain ⟨rfl,a0⟩:=hcut;obtain rfl:=a0.u.symm;clear a0 bU bF b4;obtain ⟨s0,s1,s2,s3,_⟩:=cB.u;have bN:=Qe<|Qdu aY C cY cD t f wc b'.u.row bb.u.row
 clear cB;by_cases hK:K2=1
 ·subst hK
  by_cases bm:j=1
  ·subst bm
   have b2:=HC.u rfl rfl;have b7:dm (Calls prog 16 #[.int .u32 0,.slice aY t.length cY] wc fun e w'=>e=.returned (.int .u32 (crcU 0 t:Nat))/\w'=wc):=QbO 0 dn aY cY t wc b'.u.row an.u (by have:=z.u;omega);have bY:dm (Calls prog 16 #[.int .u32 0,.slice C f.length cD] wc fun e w'=>e=.returned (.int .u32 (crcU 0 f:Nat))/\w'=wc):=QbO 0 dn C cD f wc bb.u.row ay.u dk;rw [b2] at b7;obtain ⟨YC,cg⟩:=dt (crcU 0 f);rw [cg] at b7 bY;clear b2 cg HC;go_wp2_with fail;refine Calls.mono bN.u ?_;rintro e bC ⟨b,rfl,aL⟩;obtain rfl:=aL.symm;cases b with
   | true=>
    exact jh
   | false=>
    go_wp2_with fail;refine Calls.mono b7.u ?_;rintro e br ⟨rfl,aM⟩;obtain rfl:=aM.symm;go_wp2_with fail;refine Calls.mono bY.u ?_;rintro e cn ⟨rfl,af⟩;obtain rfl:=af.symm;exact jh
  ·have cZ:((j:Int) != 1)=true:=du
   clear bm;exact jh
 ·have cN:(K2 != 1)=true:=by simp [hK]
  clear hK;exact jh
end Go.Proofs.YtgginbpmebgkcaaGreatDoor
