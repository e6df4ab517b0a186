import Derived.Test.YtgginbpmebgkcaaGreatDoorMAD
import Derived.Test.YtgginbpmebgkcaaGreatDoorMAW
import Derived.Test.YtgginbpmebgkcaaGreatDoorMAX
import Derived.Test.YtgginbpmebgkcaaGreatDoorMBE
import Derived.Test.YtgginbpmebgkcaaGreatDoorMBL
import Derived.Test.YtgginbpmebgkcaaGreatDoorMBM
namespace Go.Proofs.YtgginbpmebgkcaaGreatDoor
open Go.RowKit Go.Proofs.Tryz
attribute [local go_sem ↓] Go.wp_at_zero Go.wp_at_succ
set_option linter.unusedVariables false
set_option maxRecDepth 100000
set_option maxHeartbeats 25600000
theorem Qo0(W:World)(B:Nat)(x:Int)(t:TypeId)(hB:B<=W.heap.size):Qi t B (W.alloc (.cells #[.int .u8 x] t)) (some ⟨W.heap.size,0,none⟩) 1 [x]:=
 World.ownsRow_lit W #[.int .u8 x] 1 hB dy rfl
theorem QiT(V k:Nat):V/2^(8*k)/256=V/2^(8*(k+1)):=by
 rw [Nat.div_div_eq_div_mul,show 2^(8*(k+1))=2^(8*k)*256 from by rw [show 8*(k+1)=8*k+8 from dk,Nat.pow_add]]
theorem QdR(V n:Nat)(w:World)(hV:V<4294967296)(hn:n<=4):
  Calls prog 31 #[.int .u64 (V:Nat),.int .i64 (n:Nat),.bool false] w fun e w'=>∃a c,e=.returned (.slice a (QI V n).length c)/\Qi 5 w.heap.size w' a c (QI V n)/\Below w.heap.size w w':=by
 refine dP ?_;intro i0 hi af ak aq;refine rp ?_;intro O0 B0 B;go_enter func31,ntmps31;go_wp2_with fail;go_loopw [0,7,8] (fun vx vo vk wr=>∃(k x:Nat) (a:Option Addr) (c:Nat) (L:List Int),k<=n/\vx=.int .u64 (x:Nat)/\x<4294967296/\vk=.int .i64 (k:Nat)/\vo=.slice a L.length c/\L.length<=4/\dm (V/2^(8*k)=x)/\dm (QI V k=L)/\dm (Qi 5 w.heap.size wr a c L)/\dm (Below w.heap.size w wr)) (fun _ _ vk _=>n-(intOf vk).toNat)
 case atStart=>exact ⟨0,V,some ⟨w.heap.size,0,none⟩,0,[],Nat.zero_le _,rfl,hV,rfl,rfl,dr,B,rfl,O0,B0⟩
 case round=>
  clear O0 B0 B;obtain ⟨k,x,a,c,L,hk,rfl,hx,rfl,rfl,hL,HX,HL,HO,HB⟩:=hrel;by_cases ab:k<n
  ·refine rq ?_
   intro y hy j g h q hq f d a1;have z:dm (QI V (k+1)=L++[(y:Int)]):=by show _=_;rw [Qed,HX.u,HL.u,hy]
   have O:(L++[(y:Int)]).length<=4:=by rw [<-z.u,QN];omega
   have O2:=Qe<|HO.u.grown (World.grownBy_alloc wr (.cells #[.int .u8 (y:Int)] 5) none) dr
   have B2:dm (Below w.heap.size w (wr.alloc (.cells #[.int .u8 (y:Int)] 5))):=HB.u.alloc HB.u.size _;have E:=Qe<|QbX wr (y:Int) 5
   have b:dm (w.heap.size<=(wr.alloc (.cells #[.int .u8 (y:Int)] 5)).heap.size):=B2.u.size;have m:=Qe<|Qi.based HO.u
   clear hy hq HX HL HO HB;go_wp2_with (at_builtin;refine Qm _ rfl _ _ 22 rfl w.heap.size 5 i0 (.int .u8 0) 1 underlying22 hi af ak aq rfl (.slice a L.length c) L.length (L.map (Value.int .u8)) rfl O2.u (some ⟨wr.heap.size,0,none⟩) 1 [(y:Int)] rfl E.u (fun e=>dx) dK du b.u ?_)
   intro v' w2 R Q aa;rw [show L.map (Value.int .u8)++[Value.int .u8 (y:Int)]=(L++[(y:Int)]).map (Value.int .u8) from dr] at R;obtain ⟨a',c',e',av⟩:=Qi.of R;subst e'
   have P:(Value.slice a L.length c).ownBlock=Qt a:=by cases a<;>rfl
   rw [P] at Q;have B3:=Qe<|B2.u.grown Q b.u (fun k e=>m.u k e)
   have K:=Qe av;clear R aa Q P av O2 B2 E b m;generalize L++[(y:Int)]=L2 at*;exact rr
  ·exact rt
theorem QbV(V n:Nat)(w:World)(hV:V<4294967296)(hn:n<=4):
  Calls prog 31 #[.int .u64 (V:Nat),.int .i64 (n:Nat),.bool true] w fun e w'=>∃a c,e=.returned (.slice a (QI V n).reverse.length c)/\Qi 5 w.heap.size w' a c (QI V n).reverse/\Below w.heap.size w w':=by
 refine dP ?_;intro i0 hi af ak aq;refine rp ?_;intro O0 B0 B;go_enter func31,ntmps31;go_wp2_with fail;go_loopw [0,7,8] (fun vx vo vk wr=>∃(k x:Nat) (a:Option Addr) (c:Nat) (L:List Int),k<=n/\vx=.int .u64 (x:Nat)/\x<4294967296/\vk=.int .i64 (k:Nat)/\vo=.slice a L.length c/\L.length<=4/\dm (V/2^(8*k)=x)/\dm ((QI V k).reverse=L)/\dm (Qi 5 w.heap.size wr a c L)/\dm (Below w.heap.size w wr)) (fun _ _ vk _=>n-(intOf vk).toNat)
 case atStart=>exact ⟨0,V,some ⟨w.heap.size,0,none⟩,0,[],Nat.zero_le _,rfl,hV,rfl,rfl,dr,B,rfl,O0,B0⟩
 case round=>
  clear O0 B0 B;obtain ⟨k,x,a,c,L,hk,rfl,hx,rfl,rfl,hL,HX,HL,HO,HB⟩:=hrel;by_cases ab:k<n
  ·refine rq ?_
   intro y hy j g h q hq f d a1;have z:dm ((QI V (k+1)).reverse=[(y:Int)]++L):=by show _=_;rw [Qed,HX.u,List.reverse_append,HL.u,hy];rfl
   have O:([(y:Int)]++L).length<=4:=by rw [<-z.u,List.length_reverse,QN];omega
   have al:L.length<=3:=by rw [List.length_append] at O;have:[(y:Int)].length=1:=rfl;omega
   have O2:dm (Qi 5 w.heap.size (wr.alloc (.cells #[.int .u8 (y:Int)] 5)) (some ⟨wr.heap.size,0,none⟩) 1 [(y:Int)]):=Qo0 wr _ _ _ HB.u.size;have B2:dm (Below w.heap.size w (wr.alloc (.cells #[.int .u8 (y:Int)] 5))):=HB.u.alloc HB.u.size _;have o:=Qe<|(HO.u.grown (World.grownBy_alloc wr (.cells #[.int .u8 (y:Int)] 5) none) dr).mine
   have b:dm (w.heap.size<=(wr.alloc (.cells #[.int .u8 (y:Int)] 5)).heap.size):=B2.u.size;have r:w.heap.size<=wr.heap.size:=HB.u.size;clear hy hq HX HL HO HB;go_wp2_with (at_builtin;refine Qm _ rfl _ _ 22 rfl w.heap.size 5 i0 (.int .u8 0) 1 underlying22 hi af ak aq rfl (.slice (some ⟨wr.heap.size,0,none⟩) 1 1) 1 [.int .u8 (y:Int)] rfl O2.u a c L rfl o.u.row o.u.nil_len dy dk b.u ?_)
   intro v' w2 R Q aa;have ar:1+L.length=([(y:Int)]++L).length:=by rw [List.length_append];rfl
   have H:w2.ownsRow w.heap.size 5 1 v' ([(y:Int)]++L).length (([(y:Int)]++L).map (Value.int .u8)):=by rw [<-ar];exact R
   obtain ⟨a',c',e',av⟩:=Qi.of H;subst e'
   have B3:=Qe<|B2.u.grown Q b.u (fun k e=>ru)
   have K:=Qe av;clear R H aa Q av O2 B2 o b ar;generalize [(y:Int)]++L=L2 at*;exact rr
  ·exact rt
theorem Qry(V:Nat):QI V 4=[((V%256:Nat):Int),((V/256%256:Nat):Int),((V/65536%256:Nat):Int),((V/16777216%256:Nat):Int)]:=by
 simp [QI,List.range_succ]
theorem QiW(X:Nat)(h:X<4294967296):(QI X 4).reverse=QI (rb4 X) 4:=by
 rw [Qry,Qry];unfold rb4;have ha:X%256<256:=Nat.mod_lt _ dn;have hb:X/256%256<256:=Nat.mod_lt _ dn;have I:X/65536%256<256:=Nat.mod_lt _ dn;have hd:X/16777216%256<256:=Nat.mod_lt _ dn;generalize X%256=a at*;generalize X/256%256=b at*;generalize X/65536%256=c at*;generalize X/16777216%256=d at*;have q1:(d+256*c+65536*b+16777216*a)/256=c+256*b+65536*a:=dk;have q2:(d+256*c+65536*b+16777216*a)/65536=b+256*a:=dk;have q3:(d+256*c+65536*b+16777216*a)/16777216=a:=dk;have e1:(d+256*c+65536*b+16777216*a)%256=d:=dk;have e2:(c+256*b+65536*a)%256=c:=dk;have R:(b+256*a)%256=b:=dk;have V:a%256=a:=dk;rw [q1,q2,q3,e1,e2,R,V];rfl
theorem Qjx(h:Nat)(hh:h<65536):(QI h 2).reverse=[((h/256:Nat):Int),((h%256:Nat):Int)]:=by
 have e:QI h 2=[((h%256:Nat):Int),((h/256%256:Nat):Int)]:=by simp [QI,List.range_succ]
 rw [e,show h/256%256=h/256 from dk];rfl
theorem QlV(I:Nat)(ao bo:Option Addr)(ca cb:Nat)(zs d:List Int)(w:World)(hI:I<=7)(hr:Q1 w ao zs)(hz:Qh zs)(hl:zs.length<=10000)(hao:∀ad,ao=some ad->0<zs.length->ad.block<w.heap.size)(hrd:Q1 w bo d)(hd:Qh d)(hld:d.length<=10000)(hbo:∀ad,bo=some ad->0<d.length->ad.block<w.heap.size):
  Calls prog 8 #[.slice ao zs.length ca,.int .i64 (I:Nat),.slice bo d.length cb] w fun e w'=>∃a' c',e=.returned (.slice a' (zcode I d zs).length c')/\Qi 5 w.heap.size w' a' c' (zcode I d zs)/\Below w.heap.size w w':=by
 refine dP ?_;intro i0 hi af ak aq;have aY:decide ((zs.length:Int) > 100000)=false:=decide_eq_false dk;have F:decide ((I:Int)<0)=false:=decide_eq_false dk;have aJ:decide ((I:Int) > 7)=false:=decide_eq_false dk;obtain ⟨X,hX,ab,a9⟩:=QeJ zs;obtain ⟨Y,hY,N,bw⟩:=QeJ d;have HR:=Qe hr;have ai:=Qe hao;have aw:=Qe hrd;have V:=Qe hbo;refine kY ?_;intro P hP HP aC;have EF:=Qe (fun W h=>QgM ao ca zs W h hz dk);have AZ:=Qe (fun W h=>QbS ao ca zs W h hz dk);have AD:=Qe (fun W h=>QbS bo cb d W h hd dk);rw [hX] at AZ;rw [hY] at AD;rw [hP] at EF;have s:=Qe (fun W=>QbV X 4 W a9 dn);have ax:=Qe (fun W=>QbV Y 4 W bw dn);rw [QiW X a9] at s;rw [QiW Y bw] at ax;obtain ⟨XB,a6⟩:=dt (QI (rb4 X) 4);obtain ⟨YB,a5⟩:=dt (QI (rb4 Y) 4);have aH:XB.length<=10:=by rw [<-a6,QN];omega
 have aI:YB.length<=10:=by rw [<-a5,QN];omega
 rw [a6] at s;rw [a5] at ax;have aW:dm (QI (rb4 (Adl.adl zs).toNat) 4=XB):=by show _=_;rw [ab];exact a6
 have aF:dm (QI (rb4 (Adl.adl d).toNat) 4=YB):=by show _=_;rw [N];exact a5
 have aK:(X:Int)%18446744073709551616=(X:Int):=dk;have aL:(Y:Int)%18446744073709551616=(Y:Int):=dk;have aD:IntKind.u64.wrap (X:Int)=(X:Int):=dN;have aM:IntKind.u64.wrap (Y:Int)=(Y:Int):=dN;clear hr hz hao hrd hd hbo hP hX ab hY N a6 a5;by_cases he:d=[]
 ·obtain ⟨H,M⟩:∃H:Nat,zhd I false=H:=⟨_,rfl⟩
  have u:H<65536:=M▸Qf3 I false hI;have n:dm (256*(16*(I:Int)+8)+(31-(256*(16*(I:Int)+8))%31)%31=(H:Int)):=fw;have T:dm (256*(16*(I:Int)+8)+-((256*(16*(I:Int)+8))%31)%31=(H:Int)):=fw;refine rv ?_;intro aE aB c;rw [Qjx H u] at c;obtain ⟨HB,x⟩:=dt ([((H/256:Nat):Int),((H%256:Nat):Int)]);have aA:HB.length<=10:=by rw [<-x];simp
  rw [x] at c;have az:dm ([((zhd I false/256:Nat):Int),((zhd I false%256:Nat):Int)]=HB):=by show _=_;rw [M];exact x
  refine rx ?_;intro y i;have HE:=Qe he;clear M x;go_enter func8,ntmps8;go_upto_region 8 with fail;first|rw [T.u]|rw [n.u]
  clear n T;have r:w.heap.size<=(w.alloc (.cells #[] 5)).heap.size:=i.u.size;generalize w.alloc (.cells #[] 5)=w0 at*;refine ry ?_;intro m Z C B E a bl ah t;rw [Z,B,a] at y;rw [t.u];clear Z B a t;go_wp2_with fail;refine Calls.mono (c.u _) ?_;rintro e S ⟨p,A,rfl,j,o⟩;refine eW ?_;intro K l k f;clear j o y i;go_wp2_with (at_builtin;refine Qm _ rfl _ _ 22 rfl w.heap.size 5 i0 (.int .u8 0) 1 underlying22 hi af ak aq rfl (.slice m E.length C) E.length (E.map (Value.int .u8)) rfl K.u p A HB rfl k.u.row k.u.nil_len dy dk f.u ?_)
  intro v w1 R Q aa;rw [<-List.map_append] at R;obtain ⟨a1,c1,rfl,ho⟩:=Qi.of R;rw [QA] at Q;have ay:=Qe<|l.u.grown Q f.u (fun g e=>K.u.base g e)
  obtain ⟨L1,b⟩:=dt (E++HB);have au:L1.length<=60000:=eG;rw [b] at ho ⊢;have av:=Qe b;have y:=Qe ho;have i:=ay;have r:w.heap.size<=w1.heap.size:=i.u.size;clear R Q aa ho b K l f ay;have R1:=Qe<|HR.u.beneath i.u ai.u
  go_wp2_with fail;refine Calls.mono (EF.u _ R1.u) ?_;rintro e S ⟨p,A,rfl,j,o⟩;refine eW ?_;intro K l k f;clear j o y i;go_wp2_with (at_builtin;refine Qm _ rfl _ _ 22 rfl w.heap.size 5 i0 (.int .u8 0) 1 underlying22 hi af ak aq rfl (.slice a1 L1.length c1) L1.length (L1.map (Value.int .u8)) rfl K.u p A P rfl k.u.row k.u.nil_len dy dk f.u ?_)
  intro v w2 R Q aa;rw [<-List.map_append] at R;obtain ⟨a2,c2,rfl,ho⟩:=Qi.of R;rw [QA] at Q;have an:=Qe<|l.u.grown Q f.u (fun g e=>K.u.base g e)
  obtain ⟨L2,b⟩:=dt (L1++P);have aG:L2.length<=90000:=eG;rw [b] at ho ⊢;have z:=Qe b;have y:=Qe ho;have i:=an;have r:w.heap.size<=w2.heap.size:=i.u.size;clear R Q aa ho b K l f an;have R2:=Qe<|HR.u.beneath i.u ai.u
  go_wp2_with fail;refine Calls.mono (AZ.u _ R2.u) ?_;rintro e wq ⟨rfl,ae⟩;obtain rfl:=ae.symm;go_wp2_with fail;refine Calls.mono (s.u _) ?_;rintro e S ⟨p,A,rfl,j,o⟩;refine eW ?_;intro K l k f;clear j o y i;go_wp2_with (at_builtin;refine Qm _ rfl _ _ 22 rfl w.heap.size 5 i0 (.int .u8 0) 1 underlying22 hi af ak aq rfl (.slice a2 L2.length c2) L2.length (L2.map (Value.int .u8)) rfl K.u p A XB rfl k.u.row k.u.nil_len dy dk f.u ?_)
  intro v w3 R Q aa;rw [<-List.map_append] at R;obtain ⟨q,c3,rfl,ho⟩:=Qi.of R;rw [QA] at Q;have ar:=Qe<|l.u.grown Q f.u (fun g e=>K.u.base g e)
  obtain ⟨D,b⟩:=dt (L2++XB);have al:D.length<=120000:=eG;rw [b] at ho ⊢;have ag:=Qe b;have y:=Qe ho;have i:=ar;clear R Q aa ho b K l f ar;have U:dm (D=zcode I d zs):=by
   show _=_;rw [<-ag.u,<-z.u,<-av.u,<-ah.u];unfold zcode QcS;rw [if_pos HE.u,az.u,HP.u,aW.u,List.nil_append,List.append_assoc]
  clear ah av z ag az;go_wp2_with fail;go_ret;have a7:=U.u;subst a7;exact ⟨q,c3,rfl,y.u,i.u⟩
 ·obtain ⟨H,M⟩:∃H:Nat,zhd I true=H:=⟨_,rfl⟩
  have u:H<65536:=M▸Qf3 I true hI;have n:dm (256*(16*(I:Int)+8)+32+(31-(256*(16*(I:Int)+8)+32)%31)%31=(H:Int)):=fw;have T:dm (256*(16*(I:Int)+8)+32+-((256*(16*(I:Int)+8)+32)%31)%31=(H:Int)):=fw;refine rv ?_;intro aE aB c;rw [Qjx H u] at c;obtain ⟨HB,x⟩:=dt ([((H/256:Nat):Int),((H%256:Nat):Int)]);have aA:HB.length<=10:=by rw [<-x];simp
  rw [x] at c;have az:dm ([((zhd I true/256:Nat):Int),((zhd I true%256:Nat):Int)]=HB):=by show _=_;rw [M];exact x
  refine rx ?_;intro y i;have aj:0<d.length:=by have:d.length≠0:=fun h=>he (List.eq_nil_of_length_eq_zero h);omega
  have HE:=Qe he;clear M x he;go_enter func8,ntmps8;go_upto_region 8 with fail;first|rw [T.u]|rw [n.u]
  clear n T;have r:w.heap.size<=(w.alloc (.cells #[] 5)).heap.size:=i.u.size;generalize w.alloc (.cells #[] 5)=w0 at*;refine ry ?_;intro m Z C B E a bl ah t;rw [Z,B,a] at y;rw [t.u];clear Z B a t;go_wp2_with fail;refine Calls.mono (c.u _) ?_;rintro e S ⟨p,A,rfl,j,o⟩;refine eW ?_;intro K l k f;clear j o y i;go_wp2_with (at_builtin;refine Qm _ rfl _ _ 22 rfl w.heap.size 5 i0 (.int .u8 0) 1 underlying22 hi af ak aq rfl (.slice m E.length C) E.length (E.map (Value.int .u8)) rfl K.u p A HB rfl k.u.row k.u.nil_len dy dk f.u ?_)
  intro v w1 R Q aa;rw [<-List.map_append] at R;obtain ⟨a1,c1,rfl,ho⟩:=Qi.of R;rw [QA] at Q;have ay:=Qe<|l.u.grown Q f.u (fun g e=>K.u.base g e)
  obtain ⟨L1,b⟩:=dt (E++HB);have au:L1.length<=60000:=eG;rw [b] at ho ⊢;have av:=Qe b;have y:=Qe ho;have i:=ay;have r:w.heap.size<=w1.heap.size:=i.u.size;clear R Q aa ho b K l f ay;have R1:=Qe<|aw.u.beneath i.u V.u
  go_wp2_with fail;refine Calls.mono (AD.u _ R1.u) ?_;rintro e wq ⟨rfl,ae⟩;obtain rfl:=ae.symm;go_wp2_with fail;refine Calls.mono (ax.u _) ?_;rintro e S ⟨p,A,rfl,j,o⟩;refine eW ?_;intro K l k f;clear j o y i;go_wp2_with (at_builtin;refine Qm _ rfl _ _ 22 rfl w.heap.size 5 i0 (.int .u8 0) 1 underlying22 hi af ak aq rfl (.slice a1 L1.length c1) L1.length (L1.map (Value.int .u8)) rfl K.u p A YB rfl k.u.row k.u.nil_len dy dk f.u ?_)
  intro v w2 R Q aa;rw [<-List.map_append] at R;obtain ⟨a2,c2,rfl,ho⟩:=Qi.of R;rw [QA] at Q;have an:=Qe<|l.u.grown Q f.u (fun g e=>K.u.base g e)
  obtain ⟨L2,b⟩:=dt (L1++YB);have aG:L2.length<=90000:=eG;rw [b] at ho ⊢;have z:=Qe b;have y:=Qe ho;have i:=an;have r:w.heap.size<=w2.heap.size:=i.u.size;clear R Q aa ho b K l f an;have R2:=Qe<|HR.u.beneath i.u ai.u
  go_wp2_with fail;refine Calls.mono (EF.u _ R2.u) ?_;rintro e S ⟨p,A,rfl,j,o⟩;refine eW ?_;intro K l k f;clear j o y i;go_wp2_with (at_builtin;refine Qm _ rfl _ _ 22 rfl w.heap.size 5 i0 (.int .u8 0) 1 underlying22 hi af ak aq rfl (.slice a2 L2.length c2) L2.length (L2.map (Value.int .u8)) rfl K.u p A P rfl k.u.row k.u.nil_len dy dk f.u ?_)
  intro v w3 R Q aa;rw [<-List.map_append] at R;obtain ⟨q,c3,rfl,ho⟩:=Qi.of R;rw [QA] at Q;have ar:=Qe<|l.u.grown Q f.u (fun g e=>K.u.base g e)
  obtain ⟨D,b⟩:=dt (L2++P);have al:D.length<=120000:=eG;rw [b] at ho ⊢;have ag:=Qe b;have y:=Qe ho;have i:=ar;have r:w.heap.size<=w3.heap.size:=i.u.size;clear R Q aa ho b K l f ar;have R3:=Qe<|HR.u.beneath i.u ai.u
  go_wp2_with fail;refine Calls.mono (AZ.u _ R3.u) ?_;rintro e wq ⟨rfl,ae⟩;obtain rfl:=ae.symm;go_wp2_with fail;refine Calls.mono (s.u _) ?_;rintro e S ⟨p,A,rfl,j,o⟩;refine eW ?_;intro K l k f;clear j o y i;go_wp2_with (at_builtin;refine Qm _ rfl _ _ 22 rfl w.heap.size 5 i0 (.int .u8 0) 1 underlying22 hi af ak aq rfl (.slice q D.length c3) D.length (D.map (Value.int .u8)) rfl K.u p A XB rfl k.u.row k.u.nil_len dy dk f.u ?_)
  intro v w4 R Q aa;rw [<-List.map_append] at R;obtain ⟨a4,c4,rfl,ho⟩:=Qi.of R;rw [QA] at Q;have a8:=Qe<|l.u.grown Q f.u (fun g e=>K.u.base g e)
  obtain ⟨L4,b⟩:=dt (D++XB);have O:L4.length<=150000:=eG;rw [b] at ho ⊢;have G:=Qe b;have y:=Qe ho;have i:=a8;clear R Q aa ho b K l f a8;have U:dm (L4=zcode I d zs):=by
   show _=_;rw [<-G.u,<-ag.u,<-z.u,<-av.u,<-ah.u];unfold zcode QcS;rw [if_neg HE.u,az.u,aF.u,HP.u,aW.u,List.nil_append,List.append_assoc,List.append_assoc]
  clear ah av z ag G az;go_wp2_with fail;go_ret;have a7:=U.u;subst a7;exact ⟨a4,c4,rfl,y.u,i.u⟩
structure Qbq(w:World):Prop where
 m0:w.cell? ⟨0,0,none⟩=some (.int .i64 31)
 m1:w.cell? ⟨0,1,none⟩=some (.int .i64 139)
 m2:w.cell? ⟨0,2,none⟩=some (.int .i64 8)
theorem Qbq.below{w w':World}{B:Nat}(h:Qbq w)(hb:Below B w w')(hB:3<=B):Qbq w':=by
 refine ⟨?_,?_,?_⟩
 ·rw [hb.cell (p:=⟨0,0,none⟩) k7];exact h.m0
 ·rw [hb.cell (p:=⟨0,1,none⟩) k7];exact h.m1
 ·rw [hb.cell (p:=⟨0,2,none⟩) k7];exact h.m2
def gH0:List Int:=[31,139,8,0,0,0,0,0,0,0]
theorem QkI(w:World)(x y:Int)(t:TypeId):Q1 (w.alloc (.cells #[.int .u8 x,.int .u8 y] t)) (some ⟨w.heap.size,0,none⟩) [x,y]:=(Qh7 w w.heap.size x y t (Nat.le_refl _)).mine.row
theorem QrE:hfl 0 2=false/\hfl 0 4=false/\hfl 0 8=false/\hfl 0 16=false:=by decide
theorem Qsc(W:World):Sem.run prog (Instr.index 121 (.agg #[.int .i64 31,.int .i64 139,.int .i64 8]) (.int .i64 0)) W=.ok (.int .i64 31) W:=by kernel_rfl
theorem QrV(W:World):Sem.run prog (Instr.index 121 (.agg #[.int .i64 31,.int .i64 139,.int .i64 8]) (.int .i64 1)) W=.ok (.int .i64 139) W:=by kernel_rfl
theorem QrY(W:World):Sem.run prog (Instr.index 121 (.agg #[.int .i64 31,.int .i64 139,.int .i64 8]) (.int .i64 2)) W=.ok (.int .i64 8) W:=by kernel_rfl
theorem Qo2(sz:Int)(w:World)(hM:Qbq w):
  Calls prog 27 #[.agg #[.int .i64 0,.int .i64 0,.int .i64 0,.int .i64 0,.slice none 0 0,.slice none 0 0,.slice none 0 0,.int .i64 sz]] w fun e w'=>∃a c,e=.returned (.slice a gH0.length c)/\Qi 5 w.heap.size w' a c gH0/\Below w.heap.size w w':=by
 refine dP ?_;intro i0 hi af ak aq;obtain ⟨f2,f4,f8,C⟩:=QrE;have bu:=Qe (fun W=>QB 0 0 0 0 sz none none none 0 0 0 0 0 0 4 W);have I:=Qe (fun W=>QB 0 0 0 0 sz none none none 0 0 0 0 0 0 8 W);have h:=Qe (fun W=>QB 0 0 0 0 sz none none none 0 0 0 0 0 0 16 W);rw [f4] at bu;rw [f8] at I;rw [C] at h;have x:=Qe<|Qfd w 0 0 0 0 sz (.slice none 0 0) (.slice none 0 0) (.slice none 0 0) 28
 have u:dm (Below w.heap.size w (w.alloc (.cells #[.int .i64 0,.int .i64 0,.int .i64 0,.int .i64 0,.slice none 0 0,.slice none 0 0,.slice none 0 0,.int .i64 sz] 28))):=(Below.refl _ _).alloc (Nat.le_refl _) _;have s:w.heap.size<(w.alloc (.cells #[.int .i64 0,.int .i64 0,.int .i64 0,.int .i64 0,.slice none 0 0,.slice none 0 0,.slice none 0 0,.int .i64 sz] 28)).heap.size:=dr;have q:0<w.heap.size:=World.block_lt_of_cell? _ _ hM.m0;have m0:=(u.u.cell (p:=⟨0,0,none⟩) q).trans hM.m0;have m1:=(u.u.cell (p:=⟨0,1,none⟩) q).trans hM.m1;have m2:=(u.u.cell (p:=⟨0,2,none⟩) q).trans hM.m2;clear hM f2 f4 f8 C;go_enter func27,ntmps27;go_upto_region 2 with fail;generalize w.alloc (.cells #[.int .i64 0,.int .i64 0,.int .i64 0,.int .i64 0,.slice none 0 0,.slice none 0 0,.slice none 0 0,.int .i64 sz] 28)=w1 at*;go_wp2_with fail;go_loopw [3,5,7] (fun v3 _ v7 wr=>∃(k:Nat) (a:Option Addr) (c:Nat) (L:List Int),k<=3/\v7=.int .i64 (k:Nat)/\v3=.slice a L.length c/\dm (gH0.take k=L)/\dm (Qi 5 (w.heap.size+1) wr a c L)/\dm (Below w.heap.size w wr)/\dm (Mb wr w.heap.size 0 0 0 0 sz (.slice none 0 0) (.slice none 0 0) (.slice none 0 0))) (fun _ _ v7 _=>3-(intOf v7).toNat)
 case atStart=>exact ⟨0,none,0,[],dk,rfl,rfl,rfl,Qi.nil _ _ _,u,x⟩
 case round=>
  clear u x m0 m1 m2 s;obtain ⟨k,a,c,L,hk,rfl,rfl,HL,y,i,d⟩:=hrel;by_cases ab:k<3
  ·have h3:k=0\/k=1\/k=2:=dk
   rcases h3 with rfl|rfl|rfl
   ·have J:=Qsc wr
    have al:L.length<=3:=iK;have K:=Qe<|y.u.grown (World.grownBy_alloc wr (.cells #[.int .u8 31] 5) none) dr
    have l:dm (Below w.heap.size w (wr.alloc (.cells #[.int .u8 31] 5))):=i.u.alloc i.u.size _;have F:=Qe<|d.u.below ((Below.refl _ _).alloc (Nat.le_refl _) (.cells #[.int .u8 31] 5))
    have E:=Qe<|QbX wr 31 5
    have f:dm (w.heap.size<=(wr.alloc (.cells #[.int .u8 31] 5)).heap.size):=l.u.size;have z:dm (gH0.take 1=L++[31]):=k8;refine iL ?_;intro m n;clear y i d HL;go_wp2_with (at_builtin;refine Qm _ rfl _ _ 22 rfl (w.heap.size+1) 5 i0 (.int .u8 0) 1 underlying22 hi af ak aq rfl (.slice a L.length c) L.length (L.map (Value.int .u8)) rfl K.u (some ⟨wr.heap.size,0,none⟩) 1 [31] rfl E.u (fun e=>dx) dK du gg ?_)
    intro v w2 R Q aa;rw [show L.map (Value.int .u8)++[Value.int .u8 31]=(L++[31]).map (Value.int .u8) from dr] at R;obtain ⟨a2,c2,rfl,ho⟩:=Qi.of R;rw [QA] at Q;refine lb ?_;intro B2 o O2;clear R Q aa ho K l F E f m;generalize L++[31]=L2 at*;go_wp2_with fail;go_roundw
    case rel=>exact ⟨1,a2,c2,L2,dk,dw,rfl,z,O2,B2,o⟩
    case measure=>simp [intOf]
   ·have J:=QrV wr
    have al:L.length<=3:=iK;have K:=Qe<|y.u.grown (World.grownBy_alloc wr (.cells #[.int .u8 139] 5) none) dr
    have l:dm (Below w.heap.size w (wr.alloc (.cells #[.int .u8 139] 5))):=i.u.alloc i.u.size _;have F:=Qe<|d.u.below ((Below.refl _ _).alloc (Nat.le_refl _) (.cells #[.int .u8 139] 5))
    have E:=Qe<|QbX wr 139 5
    have f:dm (w.heap.size<=(wr.alloc (.cells #[.int .u8 139] 5)).heap.size):=l.u.size;have z:dm (gH0.take 2=L++[139]):=k8;refine iL ?_;intro m n;clear y i d HL;go_wp2_with (at_builtin;refine Qm _ rfl _ _ 22 rfl (w.heap.size+1) 5 i0 (.int .u8 0) 1 underlying22 hi af ak aq rfl (.slice a L.length c) L.length (L.map (Value.int .u8)) rfl K.u (some ⟨wr.heap.size,0,none⟩) 1 [139] rfl E.u (fun e=>dx) dK du gg ?_)
    intro v w2 R Q aa;rw [show L.map (Value.int .u8)++[Value.int .u8 139]=(L++[139]).map (Value.int .u8) from dr] at R;obtain ⟨a2,c2,rfl,ho⟩:=Qi.of R;rw [QA] at Q;refine lb ?_;intro B2 o O2;clear R Q aa ho K l F E f m;generalize L++[139]=L2 at*;go_wp2_with fail;go_roundw
    case rel=>exact ⟨2,a2,c2,L2,dk,dw,rfl,z,O2,B2,o⟩
    case measure=>simp [intOf]
   ·have J:=QrY wr
    have al:L.length<=3:=iK;have K:=Qe<|y.u.grown (World.grownBy_alloc wr (.cells #[.int .u8 8] 5) none) dr
    have l:dm (Below w.heap.size w (wr.alloc (.cells #[.int .u8 8] 5))):=i.u.alloc i.u.size _;have F:=Qe<|d.u.below ((Below.refl _ _).alloc (Nat.le_refl _) (.cells #[.int .u8 8] 5))
    have E:=Qe<|QbX wr 8 5
    have f:dm (w.heap.size<=(wr.alloc (.cells #[.int .u8 8] 5)).heap.size):=l.u.size;have z:dm (gH0.take 3=L++[8]):=k8;refine iL ?_;intro m n;clear y i d HL;go_wp2_with (at_builtin;refine Qm _ rfl _ _ 22 rfl (w.heap.size+1) 5 i0 (.int .u8 0) 1 underlying22 hi af ak aq rfl (.slice a L.length c) L.length (L.map (Value.int .u8)) rfl K.u (some ⟨wr.heap.size,0,none⟩) 1 [8] rfl E.u (fun e=>dx) dK du gg ?_)
    intro v w2 R Q aa;rw [show L.map (Value.int .u8)++[Value.int .u8 8]=(L++[8]).map (Value.int .u8) from dr] at R;obtain ⟨a2,c2,rfl,ho⟩:=Qi.of R;rw [QA] at Q;refine lb ?_;intro B2 o O2;clear R Q aa ho K l F E f m;generalize L++[8]=L2 at*;go_wp2_with fail;go_roundw
    case rel=>exact ⟨3,a2,c2,L2,dk,dw,rfl,z,O2,B2,o⟩
    case measure=>simp [intOf]
  ·have e:k=3:=dk
   subst e;clear ab hk;have al:L.length<=3:=iK;have K:=Qe<|y.u.grown (World.grownBy_alloc wr (.cells #[.int .u8 0] 5) none) dr
   have l:dm (Below w.heap.size w (wr.alloc (.cells #[.int .u8 0] 5))):=i.u.alloc i.u.size _;have F:=Qe<|d.u.below ((Below.refl _ _).alloc (Nat.le_refl _) (.cells #[.int .u8 0] 5))
   have E:=Qe<|QbX wr 0 5
   have f:dm (w.heap.size<=(wr.alloc (.cells #[.int .u8 0] 5)).heap.size):=l.u.size;refine iL ?_;intro m n;obtain ⟨b0,b1,b2,Z,H,b5,b6,b7⟩:=d.u;clear y i d;go_wp2_with (at_builtin;refine Qm _ rfl _ _ 22 rfl (w.heap.size+1) 5 i0 (.int .u8 0) 1 underlying22 hi af ak aq rfl (.slice a L.length c) L.length (L.map (Value.int .u8)) rfl K.u (some ⟨wr.heap.size,0,none⟩) 1 [0] rfl E.u (fun e=>dx) dK du gg ?_)
   intro v w4 R Q aa;rw [show L.map (Value.int .u8)++[Value.int .u8 0]=(L++[0]).map (Value.int .u8) from dr] at R;obtain ⟨a4,c4,rfl,ho⟩:=Qi.of R;rw [QA] at Q;have i:=Qe<|l.u.grown Q f.u (fun g e=>fy)
   have d:=Qe<|F.u.grown Q (fun e=>eF)
   have y:=Qe ho;clear R Q aa ho K l F E f m;obtain ⟨L4,b⟩:=dt (L++[0]);have G:=Qe b;have O:L4.length<=100:=rE;rw [b] at y ⊢;clear b;clear b0 b1 b2 Z H b5 b6 b7;have M:w.heap.size<w4.heap.size:=d.u.lt;have m:=Qe<|Qi.based y.u
   have AL:=Qe<|QaQ (w.heap.size+1) a4 c4 0 4 L4 w4 y.u dk dn dn dk
   obtain ⟨b0,b1,b2,Z,H,b5,b6,b7⟩:=d.u;clear y;go_wp2_with fail;refine Calls.mono AL.u ?_;rintro e w5 ⟨a5,c5,rfl,bh,Y,az,ad⟩;have P:=Qe<|i.u.grown Y i.u.size (fun g e=>fy)
   have N:=Qe<|d.u.grown Y (fun e=>eF)
   have y:=Qe bh;obtain ⟨B,b⟩:=dt (L4++QI 0 4);have T:=Qe b;have aB:B.length<=200:=rF;rw [b] at y ⊢;have i:=P;have d:=N;clear bh Y az ad b AL m P N b0 b1 b2 Z H b5 b6 b7;have K:=Qe<|y.u.grown (World.grownBy_alloc w5 (.cells #[.int .u8 0,.int .u8 0] 5) none) dr
   have l:dm (Below w.heap.size w (w5.alloc (.cells #[.int .u8 0,.int .u8 0] 5))):=i.u.alloc i.u.size _;have F:=Qe<|d.u.below ((Below.refl _ _).alloc (Nat.le_refl _) (.cells #[.int .u8 0,.int .u8 0] 5))
   have E:=Qe<|QkI w5 0 0 5
   have f:dm (w.heap.size<=(w5.alloc (.cells #[.int .u8 0,.int .u8 0] 5)).heap.size):=l.u.size;have m:=Qe<|Qi.based y.u
   have n:w.heap.size<w5.heap.size:=d.u.lt;obtain ⟨b0,b1,b2,Z,H,b5,b6,b7⟩:=d.u;clear y i d;go_wp2_with (at_builtin;refine Qm _ rfl _ _ 22 rfl (w.heap.size+1) 5 i0 (.int .u8 0) 1 underlying22 hi af ak aq rfl (.slice a5 B.length c5) B.length (B.map (Value.int .u8)) rfl K.u (some ⟨w5.heap.size,0,none⟩) 2 [0,0] rfl E.u (fun e=>dx) dK du gg ?_)
   intro v w6 R Q aa;rw [show B.map (Value.int .u8)++[Value.int .u8 0,Value.int .u8 0]=(B++[0,0]).map (Value.int .u8) from dr] at R;obtain ⟨a6,c6,rfl,ho⟩:=Qi.of R;rw [QA] at Q;have i:=Qe<|l.u.grown Q f.u (fun g e=>fy)
   have d:=Qe<|F.u.grown Q (fun e=>eF)
   have y:=Qe ho;clear R Q aa ho K l F E f m;obtain ⟨L6,b⟩:=dt (B++[0,0]);have V:=Qe b;have a1:L6.length<=300:=rE;rw [b] at y ⊢;clear b;have aj:dm (L6=gH0):=by show _=_;rw [<-V.u,<-T.u,<-G.u,<-HL.u];decide
   clear b0 b1 b2 Z H b5 b6 b7;obtain ⟨b0,b1,b2,Z,H,b5,b6,b7⟩:=d.u;go_wp2_with fail;refine Calls.mono (bu.u _) ?_;rintro e w7 ⟨rfl,aA⟩;have A:=Qe<|i.u.trans (aA.mono i.u.size)
   have t:=Qe<|d.u.below aA
   have r:=Qe<|y.u.below aA
   clear aA i d y b0 b1 b2 Z H b5 b6 b7;obtain ⟨b0,b1,b2,Z,H,b5,b6,b7⟩:=t.u;go_wp2_with fail;refine Calls.mono (I.u _) ?_;rintro e w8 ⟨rfl,j⟩;have D:=Qe<|A.u.trans (j.mono A.u.size)
   have U:=Qe<|t.u.below j
   have S:=Qe<|r.u.below j
   clear j A t r b0 b1 b2 Z H b5 b6 b7;obtain ⟨b0,b1,b2,Z,H,b5,b6,b7⟩:=U.u;go_wp2_with fail;refine Calls.mono (h.u _) ?_;rintro e w9 ⟨rfl,ax⟩;have ag:=Qe<|D.u.trans (ax.mono D.u.size)
   have ae:=Qe<|S.u.below ax
   clear ax D U S b0 b1 b2 Z H b5 b6 b7;go_wp2_with fail;go_ret;have ar:=aj.u;subst ar;exact ⟨a6,c6,rfl,ae.u.mono dk,ag.u⟩
def gcode(zs:List Int):List Int:=gH0++(pk (Qr zs)++(QI (Crc.crc zs) 4++QI zs.length 4))
theorem QpT(n:Nat)(h:n<=100000):vmem 0 0 0 0 (n:Int) [] [] []=true:=by
 have J:wi (n:Int) 100000=true:=decide_eq_true ⟨dk,dk⟩;unfold vmem vmn;rw [J];decide
theorem Qqh(ao:Option Addr)(ca:Nat)(zs:List Int)(w:World)(hM:Qbq w)(hG:3<=w.heap.size)(hr:Q1 w ao zs)(hz:Qh zs)(hl:zs.length<=100)(hao:∀ad,ao=some ad->0<zs.length->ad.block<w.heap.size):
  Calls prog 6 #[.agg #[.int .i64 0,.int .i64 0,.int .i64 0,.int .i64 0,.slice none 0 0,.slice none 0 0,.slice none 0 0,.int .i64 (zs.length:Nat)],.slice ao zs.length ca] w fun e w'=>∃a c,e=.returned (.slice a (gcode zs).length c)/\Qi 5 w.heap.size w' a c (gcode zs)/\Below w.heap.size w w':=by
 refine dP ?_;intro i0 hi af ak aq;have f2:=QrE.1;have aB:=Qe (fun W=>QB 0 0 0 0 (zs.length:Nat) none none none 0 0 0 0 0 0 2 W);rw [f2] at aB;have N:=Qe (fun W=>Qpx 0 0 0 0 (zs.length:Nat) none none none 0 0 0 [] [] [] W (Q1.nil _ _) (Q1.nil _ _) (Q1.nil _ _) dr dr dr);rw [QpT zs.length dk] at N;have HR:=Qe hr;have ai:=Qe hao;have o:=Qe hM;refine kY ?_;intro P hP HP aC;have EF:=Qe (fun W h=>QgV ao ca zs W h hz dk);rw [hP] at EF;obtain ⟨X,hX⟩:=dt (Crc.crc zs);have a9:X<4294967296:=by rw [<-hX];exact QnB zs hz
 have CR:=Qe (fun W h=>Qmy ao ca zs zs.length rfl W h hz dk);rw [hX] at CR;have HX:=Qe hX;have bt:=Qe (fun W h=>Qo2 (zs.length:Nat) W h);obtain ⟨G,y⟩:=dt gH0;have aF:G.length<=10:=by rw [<-y];decide
 rw [y] at bt;have b9:=Qe y;have aD:IntKind.i64.wrap (X:Int)=(X:Int):=iJ;refine sG ?_;intro x u n M;have HN:=Qe M;rw [M] at aB N EF CR bt x u hl ⊢;clear hr hz hao hM hP hX y f2 M;go_enter func6,ntmps6;go_upto_region 1 with fail;generalize w.alloc (.cells #[.int .i64 0,.int .i64 0,.int .i64 0,.int .i64 0,.slice none 0 0,.slice none 0 0,.slice none 0 0,.int .i64 (n:Nat)] 28)=w1 at*;obtain ⟨b0,b1,b2,Z,H,b5,b6,b7⟩:=x.u;go_wp2_with fail;refine Calls.mono (N.u _) ?_;rintro e w2 ⟨rfl,ah⟩;have U:=Qe<|u.u.trans (ah.mono u.u.size)
 have z:=Qe<|x.u.below ah
 clear ah u x b0 b1 b2 Z H b5 b6 b7 N;obtain ⟨b0,b1,b2,Z,H,b5,b6,b7⟩:=z.u;have a0:w.heap.size<w2.heap.size:=z.u.lt;go_wp2_with fail;refine Calls.mono (bt.u _ (o.u.below U.u hG)) ?_;rintro e w3 ⟨q,c3,rfl,av,r⟩;have L:=Qe<|U.u.trans (r.mono U.u.size)
 have al:=Qe<|z.u.below r
 have au:=Qe<|Qi.mono (B':=w.heap.size+1) av dk
 clear r av U z b0 b1 b2 Z H b5 b6 b7 bt;obtain ⟨b0,b1,b2,Z,H,b5,b6,b7⟩:=al.u;go_wp2_with fail;refine Calls.mono (aB.u _) ?_;rintro e w4 ⟨rfl,T⟩;have i:=Qe<|L.u.trans (T.mono L.u.size)
 have ax:=Qe<|al.u.below T
 have an:=Qe<|au.u.below T
 have R4:=Qe<|HR.u.beneath i.u ai.u
 clear T L al au b0 b1 b2 Z H b5 b6 b7 aB;go_wp2_with fail;refine Calls.mono (EF.u _ R4.u) ?_;rintro e w5 ⟨a5,c5,rfl,bh,az⟩;have l:=Qe<|i.u.trans (az.mono i.u.size)
 have F:=Qe<|ax.u.below az
 have K:=Qe<|an.u.below az
 have k:=Qe<|Qi.mine bh
 have f:dm (w.heap.size+1<=w5.heap.size):=F.u.lt;have m:=Qe<|Qi.based K.u
 clear az bh i ax an R4 EF;go_wp2_with (at_builtin;refine Qm _ rfl _ _ 22 rfl (w.heap.size+1) 5 i0 (.int .u8 0) 1 underlying22 hi af ak aq rfl (.slice q G.length c3) G.length (G.map (Value.int .u8)) rfl K.u a5 c5 P rfl k.u.row k.u.nil_len dy dk f.u ?_)
 intro v w6 R Q aa;rw [<-List.map_append] at R;obtain ⟨a6,c6,rfl,ho⟩:=Qi.of R;rw [QA] at Q;have p:=Qe<|l.u.grown Q l.u.size (fun g e=>fy)
 have E:=Qe<|F.u.grown Q (fun e=>eF)
 obtain ⟨L6,b⟩:=dt (G++P);have a1:L6.length<=30000:=eG;rw [b] at ho ⊢;have V:=Qe b;have aw:=Qe ho;have R6:=Qe<|HR.u.beneath p.u ai.u
 have aG:w.heap.size<w6.heap.size:=E.u.lt;have d:=Qe<|Qi.based ho
 clear R Q aa ho b K l F f m k;have AL:=Qe<|QaQ (w.heap.size+1) a6 c6 X 4 L6 w6 aw.u dk dn a9 dk
 go_wp2_with fail;refine Calls.mono (CR.u _ R6.u) ?_;rintro e wq ⟨rfl,ae⟩;obtain rfl:=ae.symm;go_wp2_with fail;refine Calls.mono AL.u ?_;rintro e w7 ⟨a7,c7,rfl,s,I,aA,a4⟩;have A:=Qe<|p.u.grown I p.u.size (fun g e=>by have:=d.u g e;omega)
 have t:=Qe<|E.u.grown I (fun e=>by have:=d.u _ e.symm;omega)
 obtain ⟨L7,b⟩:=dt (L6++QI X 4);have aE:L7.length<=40000:=rF;rw [b] at s ⊢;have ab:=Qe b;have B:=Qe<|Qi.based s
 have ag:w.heap.size<w7.heap.size:=t.u.lt;have ay:=Qe<|QaQ (w.heap.size+1) a7 c7 n 4 L7 w7 s dk dn dk dk
 obtain ⟨b0,b1,b2,Z,H,b5,b6,b7⟩:=t.u;clear s I aA a4 b AL p E aw R6 d CR;go_wp2_with fail;refine Calls.mono ay.u ?_;rintro e w8 ⟨a8,c8,rfl,C,O,j,a2⟩;have D:=Qe<|A.u.grown O A.u.size (fun g e=>by have:=B.u g e;omega)
 have S:=Qe C;have aj:dm (L7++QI n 4=gcode zs):=by
  show _=_;unfold gcode;rw [<-ab.u,<-V.u,b9.u,HP.u,HX.u,HN.u,List.append_assoc,List.append_assoc]
 obtain ⟨L8,b⟩:=dt (L7++QI n 4);rw [b] at S aj ⊢;clear C O j a2 b ay A t B b0 b1 b2 Z H b5 b6 b7;go_wp2_with fail;go_ret;have ar:=aj.u;subst ar;exact ⟨a8,c8,rfl,S.u.mono dk,D.u⟩
end Go.Proofs.YtgginbpmebgkcaaGreatDoor
