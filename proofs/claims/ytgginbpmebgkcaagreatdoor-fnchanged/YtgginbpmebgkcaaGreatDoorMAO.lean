import Derived.BigRegion
import Derived.Test.YtgginbpmebgkcaaGreatDoorMAG
import Derived.Test.YtgginbpmebgkcaaGreatDoorMAN
namespace Go.Proofs.YtgginbpmebgkcaaGreatDoor
open Go.RowKit Go.Proofs.Tryz
attribute [local go_sem ↓] Go.wp_at_zero Go.wp_at_succ
set_option linter.unusedVariables false
set_option maxRecDepth 100000
set_option maxHeartbeats 25600000
section
variable{ls:List Int}{b n i s l k:Nat}{w:World}
def Qom(ls:List Int)(X i:Nat):Bool:=decide (ls.getD i 0=(ln ls i:Int)) && decide (1<=ln ls i) && decide (ln ls i<=15) && decide (bg ls i<=X) && decide (X<bg ls i+2^(15-ln ls i))
theorem QfO{X:Nat}(hi:i<ls.length):Qom ls X i=true↔cov ls i X:=by
 unfold Qom cov;simp only [Bool.and_eq_true,decide_eq_true_eq];exact ⟨fun h=>⟨⟨hi,h.1.1.1.1,h.1.1.1.2,h.1.1.2⟩,h.1.2,h.2⟩,fun h=>⟨⟨⟨⟨h.1.is,h.1.pos⟩,h.1.most⟩,h.2.1⟩,h.2.2⟩⟩
def nx3(ls:List Int)(b n:Nat):Nat×Nat×Nat:=
 if okC ls=true/\n<=64 then
  match (List.range ls.length).find? (Qom ls (tr (b%2^n) 15)) with
  | some i=>if ln ls i<=n then (1,i,ln ls i) else (2,0,0)
  | none=>(0,0,0)
 else (0,0,0)
theorem Qd8(h1:okC ls=true)(h2:n<=64)(h:cov ls i (tr (b%2^n) 15)):nx3 ls b n=if ln ls i<=n then (1,i,ln ls i) else (2,0,0):=by
 unfold nx3;rw [if_pos ⟨h1,h2⟩];cases hf:(List.range ls.length).find? (Qom ls (tr (b%2^n) 15)) with
 | none=>
  rw [List.find?_eq_none] at hf;exact absurd ((QfO h.1.lt).2 h) (hf i (List.mem_range.2 h.1.lt))
 | some j=>
  have hj:=List.find?_some hf;have hm:=List.mem_range.1<|List.mem_of_find?_eq_some hf
  have e:=Qld h ((QfO hm).1 hj);subst e;rfl
theorem Qhm(h:Qa8 ls b n k s l):nx3 ls b n=(k,s,l):=by
 unfold Qa8 at h;by_cases I:okC ls=true/\(0:Int)<=(n:Int)/\(n:Int)<=64
 ·rw [if_pos I,Int.toNat_natCast] at h
  have a:n<=64:=dk;rcases h with ⟨i,J,h2,rfl,rfl,rfl⟩|⟨i,J,h2,rfl,rfl,rfl⟩|⟨H,rfl,rfl,rfl⟩
  ·rw [Qd8 I.1 a J,if_pos h2]
  ·rw [Qd8 I.1 a J,if_neg dk]
  ·unfold nx3
   rw [if_pos ⟨I.1,a⟩];cases hf:(List.range ls.length).find? (Qom ls (tr (b%2^n) 15)) with
   | none=>rfl
   | some j=>
    have hj:=List.find?_some hf;have hm:=List.mem_range.1<|List.mem_of_find?_eq_some hf
    exact absurd ((QfO hm).1 hj) (H j)
 ·rw [if_neg I] at h
  unfold nx3;rw [if_neg (fun x=>I ⟨x.1,dk,dk⟩),h.1,h.2.1,h.2.2]
theorem Qhy(ls:List Int)(b n:Nat):Qa8 ls b n (nx3 ls b n).1 (nx3 ls b n).2.1 (nx3 ls b n).2.2:=by
 by_cases I:okC ls=true/\n<=64
 ·refine Qa8.yes I.1 I.2 ?_
  by_cases hx:∃i,cov ls i (tr (b%2^n) 15)
  ·obtain ⟨i,hi⟩:=hx
   rw [Qd8 I.1 I.2 hi];by_cases M:ln ls i<=n
   ·rw [if_pos M]
    exact .inl ⟨i,hi,M,rfl,rfl,rfl⟩
   ·rw [if_neg M]
    exact .inr (.inl ⟨i,hi,dk,rfl,rfl,rfl⟩)
  ·have H:∀i,¬cov ls i (tr (b%2^n) 15):=fun i hi=>hx ⟨i,hi⟩
   rw [Qhm (Qa8.yes I.1 I.2 (.inr (.inr ⟨H,rfl,rfl,rfl⟩)))];exact .inr (.inr ⟨H,rfl,rfl,rfl⟩)
 ·have h:Qa8 ls b n 0 0 0:=Qa8.no (fun x=>I ⟨x.1,dk⟩)
  rw [Qhm h];exact h
theorem Qa8.len(h:Qa8 ls b n 1 s l):l<=n/\s<=320:=by
 unfold Qa8 at h;split at h
 ·rename_i I
  rcases h with ⟨i,J,h2,_,h3,h4⟩|⟨i,_,_,h3,_⟩|⟨_,h3,_⟩
  ·have U:=(Qh5 I.1).2.1
   have h6:=J.1.lt;rw [Int.toNat_natCast] at h2;omega
  ·omega
  ·omega
 ·omega
theorem Rd.seen{p hB:Nat}{zs:List Int}(h:Rd w p hB zs i):∃ao cap,Src w p (.slice ao (zs.length-i/8) cap) ((i%8:Nat):Int) (i:Int):=by
 obtain ⟨_,_,ao,cap,E,_⟩:=h;rw [List.length_drop] at E;exact ⟨ao,cap,E⟩
theorem Qpe(p hB:Nat)(zs:List Int)(i n:Nat)(w:World)(h:Rd w p hB zs i)(hz:Qh zs)(hzl:zs.length<=65536)(n1:n<=32)(hn:i+n<=8*zs.length):
  Calls prog 185 #[.agg #[.pointer (some ⟨p,0,none⟩)],.int .i64 n] w fun e w'=>e=.returned (.int .u64 (field (bnum zs) i n:Nat))/\Below w.heap.size w w':=by
 obtain ⟨hl,an,X,G,E,y,I,hb⟩:=h;refine Calls.mono (QiG p X G (zs.drop (i/8)) ((i%8:Nat):Int) (i:Int) n w E y (hz.drop _) I eH dk dk n1 eH) ?_;rintro e w' ⟨rfl,h2⟩;refine ⟨?_,h2⟩;rw [Int.toNat_natCast,Qdl zs hz i n hl]
theorem QpG(p hB:Nat)(zs:List Int)(i n:Nat)(w:World)(h:Rd w p hB zs i)(hzl:zs.length<=65536)(hn:i+n<=8*zs.length):
  Calls prog 156 #[.pointer (some ⟨p,0,none⟩),.int .i64 n] w fun e w'=>e=.returned (.tuple #[])/\Rd w' p hB zs (i+n)/\w.grownBy w' (some p):=by
 obtain ⟨hl,an,X,G,E,y,I,hb⟩:=h;refine Calls.mono (Qcv p X (zs.drop (i/8)).length G ((i%8:Nat):Int) (i:Int) n w E eH dk dk dk dk dk eH) ?_;rintro e w' ⟨rfl,c,O,_⟩;exact ⟨rfl,Rd.moved hn c y I an hb O,O⟩
def QeK(p hB:Nat)(zs:List Int)(i:Nat)(t:Nat×Nat×Nat)(e:Ending)(w w':World):Prop:=
 (t.1=1->e=.returned (.tuple #[.int .i64 (t.2.1:Nat),.nilIface])/\Rd w' p hB zs (i+t.2.2)/\w.grownBy w' (some p))/\(t.1=2->e=.returned (.tuple #[.int .i64 0,flt 2])/\Below w.heap.size w w')/\(t.1=0->e=.returned (.tuple #[.int .i64 0,flt 3])/\Below w.heap.size w w')
theorem Qa8.kinds(h:Qa8 ls b n k s l):k=0\/k=1\/k=2:=by
 unfold Qa8 at h;split at h
 ·rcases h with ⟨i,_,_,h3,_⟩|⟨i,_,_,h3,_⟩|⟨_,h3,_⟩
  ·exact .inr (.inl h3)
  ·exact .inr (.inr h3)
  ·exact .inl h3
 ·exact .inl h.1
theorem QaG.below{w':World}{t m:Nat}{S:Nat->Nat×Nat}{L:Nat->Nat->Nat×Nat}(h:QaG ls w t S m L)(hb:Below w.heap.size w w'):QaG ls w' t S m L:={h with tab:=h.tab.below hb}
theorem Qdi(q p hB t m:Nat)(S:Nat->Nat×Nat)(L:Nat->Nat->Nat×Nat)(ls zs:List Int)(i n:Nat)(w:World)(hm:w.cell? ⟨q,0,none⟩=some (.pointer (some ⟨p,0,none⟩)))(hqp:q≠p)(h:Rd w p hB zs i)(hT:QaG ls w t S m L)(hz:Qh zs)(hzl:zs.length<=65536)(hn:Nat.min (8*zs.length-i) 15=n):
  Calls prog 180 #[.pointer (some ⟨q,0,none⟩),.pointer (some ⟨t,0,none⟩)] w fun e w'=>QeK p hB zs i (nx3 ls (field (bnum zs) i n) n) e w w':=by
 have ar:=h.le;have f:n<=15:=by rw [<-hn];exact Nat.min_le_right _ _
 have d:n<=8*zs.length-i:=by rw [<-hn];exact Nat.min_le_left _ _
 obtain ⟨X,G,s0,s1,s2,_⟩:=h.seen;obtain ⟨C,R⟩:=dt (zs.length-i/8);obtain ⟨A,hA⟩:=dt (i%8);have K:min (8*(C:Int)-(A:Int)) 15=(n:Int):=by rw [<-hn];have e:Nat.min (8*zs.length-i) 15=min (8*zs.length-i) 15:=rfl;omega
 have bu:C<=65536:=dk;have M:A<=7:=dk;rw [R] at s0;rw [hA] at s1;have Y:field (bnum zs) i n<2^64:=Nat.lt_of_lt_of_le (Q4 _ _ _) (Nat.pow_le_pow_right dn dk);have HP:=Qe<|Qpe p hB zs i n w.drew (h.below ((Below.refl _ _).drew)) hz hzl dk dk
 have y:q<w.heap.size:=World.block_lt_of_cell? w _ hm;have aa:p<w.heap.size:=World.block_lt_of_cell? w _ s0;have HT:=Qe hT;have HR:=Qe h;have av:dm (zs.length<=65536/\n<=8*zs.length-i/\i<=8*zs.length):=⟨hzl,d,ar⟩;generalize field (bnum zs) i n=F at*;clear hT h hn R hA ar d hz hzl;go_enter func180,ntmps180;go_upto_region 1 with fail;go_region
 go_wp2_with fail;refine Calls.mono HP.u ?_;rintro e w1 ⟨rfl,aj⟩;have H:Below w.heap.size w w1:=((Below.refl _ _).drew).trans aj;have o:=Qe H;have HN:=Qe<|(HT.u.below H).next ls t m F n S L w1 Y dk
 clear aj H HP;go_wp2_with fail;refine Calls.mono HN.u ?_;rintro e w2 ⟨⟨k,r,l,rfl,ha⟩,ah⟩;have ae:=o.u.trans<|ah.mono o.u.size
 have HX:=Qe<|Qhm ha
 have ad:=ha.kinds;have au:dm (k=1->l<=n/\r<=320):=fun e=>by subst e;exact ha.len
 have a:Below w2.heap.size w2 (w2.alloc (.cells #[.int .i64 k,.int .i64 r,.int .i64 l] 233)):=(Below.refl _ _).alloc (Nat.le_refl _) _;have B:=ae.trans<|a.mono ae.size
 have z:=Qe B;obtain ⟨V,u,x2,_⟩:=QfW w2 (k:Int) (r:Int) (l:Int) 233;have m3:=(B.cell (p:=⟨q,0,none⟩) y).trans hm;have b:=Qe<|HR.u.below B
 have Z:w2.heap.size<(w2.alloc (.cells #[.int .i64 k,.int .i64 r,.int .i64 l] 233)).heap.size:=dr;have E:w.heap.size<=w2.heap.size:=ae.size;obtain ⟨w3,D⟩:=dt (w2.alloc (.cells #[.int .i64 k,.int .i64 r,.int .i64 l] 233));rw [D] at z V u x2 m3 b Z;have s:=Qe V;have X1:=Qe u;have X2:=Qe x2;clear ha ah ae a B o HN s0 s1 s2 K hm HT HR V u x2;go_upto_region 3 with fail;have V:=s.u;have u:=X1.u;have x2:=X2.u;clear D s X1 X2;have J:w2.heap.size≠p:=dk;rcases ad with rfl|rfl|rfl
 ·have HQ:dm (QeK p hB zs i (nx3 ls F n) (.returned (.tuple #[.int .i64 0,flt 3])) w w3):=by
   rw [HX.u];exact ⟨(fun e=>absurd e (by decide:¬((0:Nat)=1))),(fun e=>absurd e (by decide:¬((0:Nat)=2))),(fun _=>⟨rfl,z.u⟩)⟩
  go_wp2_with fail;exact bodyPost_ret (v:=.tuple #[.int .i64 0,flt 3]) nG rfl HQ.u
 ·obtain ⟨hl,c⟩:=au.u rfl
  have j:=Qe (fun W (hb:Below w3.heap.size w3 W)=>QpG p hB zs i l W (b.u.below hb) av.u.1 (by have:=av.u;omega));go_upto_region 8 with fail;go_region_held3 (fun w'=>w'.cell? ⟨q,0,none⟩=some (.pointer (some ⟨p,0,none⟩))/\w'.cell? ⟨w2.heap.size,2,none⟩=some (.int .i64 l))
   (first|(refine ⟨?_,?_⟩<;>with_reducible assumption)|(go_keep;done))
   ((go_at_call 156;refine Calls.mono (j.u _ ((Below.refl _ _).drew)) ?_;rintro e w7 ⟨rfl,g,I⟩;have q0:=I.cell (show w3.drew.cell? ⟨q,0,none⟩=some (.pointer (some ⟨p,0,none⟩)) from m3) du;have q1:=I.cell (show w3.drew.cell? ⟨w2.heap.size,1,none⟩=some (.int .i64 r) from u) du;have q2:=I.cell (show w3.drew.cell? ⟨w2.heap.size,2,none⟩=some (.int .i64 l) from x2) du))
  have O:w.grownBy w7 (some p):=Qj (Qk (z.u.drew) (some p)) I;have HQ:dm (QeK p hB zs i (nx3 ls F n) (.returned (.tuple #[.int .i64 r,.nilIface])) w w7):=by
   rw [HX.u];exact ⟨(fun _=>⟨rfl,g,O⟩),(fun e=>absurd e (by decide:¬((1:Nat)=2))),(fun e=>absurd e (by decide:¬((1:Nat)=0)))⟩
  clear I O g;go_wp2_with fail;exact bodyPost_ret (v:=.tuple #[.int .i64 r,.nilIface]) (by simp [results,results180,go_sem]) rfl HQ.u
 ·have HQ:dm (QeK p hB zs i (nx3 ls F n) (.returned (.tuple #[.int .i64 0,flt 2])) w w3):=by
   rw [HX.u];exact ⟨(fun e=>absurd e (by decide:¬((2:Nat)=1))),(fun _=>⟨rfl,z.u⟩),(fun e=>absurd e (by decide:¬((2:Nat)=0)))⟩
  go_wp2_with fail;exact bodyPost_ret (v:=.tuple #[.int .i64 0,flt 2]) nG rfl HQ.u
end
section
variable{q p hB r:Nat}{w w':World}{zs:List Int}{rdy:Value}
theorem QdG(hg:w.grownBy w' (some r))(hlt:q<w.heap.size)(hne:q≠r)(o:Nat):w'.cell? ⟨q,o,none⟩=w.cell? ⟨q,o,none⟩:=World.cell?_of_block (w:=w) (a:=⟨q,o,none⟩) (hg.block q hlt (by simpa using hne))
theorem QlB(hg:w.grownBy w' (some r))(hlt:q<w.heap.size)(hne:q≠r)(o:Nat):w'.frozen? ⟨q,o,none⟩=w.frozen? ⟨q,o,none⟩:=World.frozen?_of_block (w:=w) (a:=⟨q,o,none⟩) (hg.block q hlt (by simpa using hne))
structure LC where
 st:Nat
 i:Nat
 f:Nat->Int
 tb:List Int
 lens:List Int
def Q8(k:Nat):Prop:=(2<=k/\k<=24)\/k=27
def upd(f:Nat->Int)(k:Nat)(x:Int):Nat->Int:=fun j=>if j=k then x else f j
def ord19(k:Nat):Nat:=[16,17,18,0,8,7,9,6,10,5,11,4,12,3,13,2,14,1,15].getD k 0
structure QH(q p hB:Nat)(zs:List Int)(rdy:Value)(w:World)(c:LC):Prop where
 ne:q≠p
 neh:hB≠q
 two:3<=q/\3<=p/\3<=hB
 rd:Rd w p hB zs c.i
 c0:w.cell? ⟨q,0,none⟩=some (.pointer (some ⟨p,0,none⟩))
 c1:∃old,w.cell? ⟨q,1,none⟩=some old
 num:∀k,Q8 k->w.cell? ⟨q,k,none⟩=some (.int .i64 (c.f k))
 c25:∃old,w.cell? ⟨q,25,none⟩=some old
 c28:w.cell? ⟨q,28,none⟩=some rdy
 free:∀k,w.frozen? ⟨q,k,none⟩=false
 own:∃B v,q<B/\p<B/\hB<B/\B<=w.heap.size/\w.cell? ⟨q,26,none⟩=some v/\w.ownsRow B 2 1 v c.lens.length (c.lens.map (Value.int .i64))/\(1<=c.st->c.st<=3->v=.slice none 0 0)/\
  (4<=c.st->∃t S m L w0,w.cell? ⟨q,25,none⟩=some (.pointer (some ⟨t,0,none⟩))/\QaG c.tb w0 t S m L/\q<t/\p<t/\w0.heap.size<=B/\∀k,t<=k->k<w0.heap.size->w.heap[k]?=w0.heap[k]?)
 g0:w.cell? ⟨1,0,none⟩=some (.iface 257 (.agg #[.pointer (some ⟨3,131,none⟩)]))
 g1:∀k,k<19->w.cell? ⟨2,k,none⟩=some (.int .i64 (ord19 k:Nat))
structure QJ(q p:Nat)(w w':World):Prop where
 os:w'.os=w.os
 tape:w'.tape=w.tape
 output:w'.output=w.output
 size:w.heap.size<=w'.heap.size
 block:∀k,k<w.heap.size->k≠q->k≠p->(∀v,w.cell? ⟨q,26,none⟩=some v->v.ownBlock≠some k)->w'.heap[k]?=w.heap[k]?
 rest:∀o,29<=o->w'.cell? ⟨q,o,none⟩=w.cell? ⟨q,o,none⟩
 own:∀v' k,w'.cell? ⟨q,26,none⟩=some v'->v'.ownBlock=some k->w.heap.size<=k\/∃v,w.cell? ⟨q,26,none⟩=some v/\v.ownBlock=some k
theorem QJ.trans{a b c:World}(h:QJ q p a b)(k:QJ q p b c):QJ q p a c:=by
 refine ⟨k.os.trans h.os,k.tape.trans h.tape,k.output.trans h.output,Nat.le_trans h.size k.size,?_,?_,?_⟩
 ·intro j hj J h2 h3
  rw [k.block j (Nat.lt_of_lt_of_le hj h.size) J h2 ?_,h.block j hj J h2 h3];intro v V e;rcases h.own v j V e with h4|⟨t,h4,U⟩
  ·omega
  ·exact h3 t h4 U
 ·intro o ho
  rw [k.rest o ho,h.rest o ho]
 ·intro v' j J h2
  rcases k.own v' j J h2 with h3|⟨v,h3,h4⟩
  ·exact .inl (Nat.le_trans h.size h3)
  ·exact h.own v j h3 h4
theorem QJ.num(hq:q≠p)(hlt:q<w.heap.size)(hg:w.grownBy w' (some p)):QJ q p w w':=by
 have I:∀o,w'.cell? ⟨q,o,none⟩=w.cell? ⟨q,o,none⟩:=fun o=>QdG hg hlt hq o
 refine ⟨hg.os,hg.tape,hg.output,hg.size,?_,(fun o _=>I o),?_⟩
 ·intro k hk _ h2 _
  exact hg.block k hk jx
 ·intro v k J h2
  exact .inr ⟨v,(I 26)▸J,h2⟩
theorem QJ.below(hlt:q<w.heap.size)(hb:Below w.heap.size w w'):QJ q p w w':=by
 have I:∀o,w'.cell? ⟨q,o,none⟩=w.cell? ⟨q,o,none⟩:=fun o=>hb.cell (p:=⟨q,o,none⟩) hlt
 exact ⟨hb.os,hb.tape,hb.output,hb.size,(fun k hk _ _ _=>hb.block k hk),(fun o _=>I o),(fun v k h1 h2=>.inr ⟨v,(I 26)▸h1,h2⟩)⟩
theorem QJ.set(k:Nat)(v:Value)(hk:k<26):QJ q p w (w.setCell ⟨q,k,none⟩ v):=by
 have I:∀o,26<=o->(w.setCell ⟨q,k,none⟩ v).cell? ⟨q,o,none⟩=w.cell? ⟨q,o,none⟩:=fun o ho=>World.cell?_setCell_other _ _ _ _ dB
 have O:=Qf w ⟨q,k,none⟩ v;exact jy
theorem QH.lt{c:LC}(h:QH q p hB zs rdy w c):q<w.heap.size:=World.block_lt_of_cell? w _ h.c0
theorem QH.went{c:LC}{i':Nat}(h:QH q p hB zs rdy w c)(hr:Rd w' p hB zs i')(hg:w.grownBy w' (some p)):QH q p hB zs rdy w' {c with i:=i'}:=by
 have hq:=h.lt;have I:∀o,w'.cell? ⟨q,o,none⟩=w.cell? ⟨q,o,none⟩:=fun o=>QdG hg hq h.ne o
 obtain ⟨B,v,b1,b2,Z,H,b5,b6,b7,b8⟩:=h.own;refine ⟨h.ne,h.neh,h.two,hr,(I 0).trans h.c0,?_,(fun k hk=>(I k).trans (h.num k hk)),?_,(I 28).trans h.c28,?_,?_,?_,?_⟩
 ·obtain ⟨b,ho⟩:=h.c1
  exact ⟨b,(I 1).trans ho⟩
 ·obtain ⟨b,ho⟩:=h.c25
  exact ⟨b,(I 25).trans ho⟩
 ·intro k
  rw [QlB hg hq h.ne k];exact h.free k
 ·refine ⟨B,v,b1,b2,Z,Nat.le_trans H hg.size,(I 26).trans b5,?_,b7,?_⟩
  ·refine b6.kept hg ?_
   exact gO
  ·intro E
   obtain ⟨t,S,m,L,w0,J,h2,h3,h4,U,h6⟩:=b8 E;refine ⟨t,S,m,L,w0,(I 25).trans J,h2,h3,h4,U,fun k k1 k2=>?_⟩;rw [<-h6 k k1 k2];exact hg.block k dk du
 ·exact hg.cell h.g0 fJ
 ·exact nI
theorem QH.set{c:LC}(h:QH q p hB zs rdy w c)(k:Nat)(hk:Q8 k)(x:Int):QH q p hB zs rdy (w.setCell ⟨q,k,none⟩ (.int .i64 x)) {c with f:=upd c.f k x}:=by
 have O:=Qf w ⟨q,k,none⟩ (.int .i64 x);have I:∀o,o≠k->(w.setCell ⟨q,k,none⟩ (.int .i64 x)).cell? ⟨q,o,none⟩=w.cell? ⟨q,o,none⟩:=fun o ho=>World.cell?_setCell_other _ _ _ _ dB
 obtain ⟨B,v,b1,b2,Z,H,b5,b6,b7,b8⟩:=h.own;have a:=hk;unfold Q8 at a;refine ⟨h.ne,h.neh,h.two,h.rd.grown O eJ eM,(I 0 dk).trans h.c0,?_,?_,?_,(I 28 dk).trans h.c28,?_,?_,?_,?_⟩
 ·exact fK
 ·intro j hj
  by_cases e:j=k
  ·subst e
   rw [World.cell?_setCell_same _ _ _ (h.num j hk)];simp [upd]
  ·rw [I j e,h.num j hj]
   simp [upd,e]
 ·exact fL
 ·exact fM
 ·refine ⟨B,v,b1,b2,Z,Nat.le_trans H O.size,(I 26 dk).trans b5,?_,b7,?_⟩
  ·refine b6.kept O ?_
   exact gO
  ·exact nJ
 ·exact fN
 ·exact fP
end
section
variable{q p hB:Nat}{zs:List Int}{rdy v:Value}{w w':World}
def lfn(s:Nat):Nat:=if s=0 then 149 else if s=1 then 178 else if s=2 then 192 else if s=3 then 199 else if s=4 then 206 else 211
def lnow(q:Nat)(rdy:Value)(s:Nat):Value:=if s<=5 then .func (Fn.func (lfn s)) #[.pointer (some ⟨q,0,none⟩)] #[] else rdy
def Qu(q p hB:Nat)(zs:List Int)(rdy:Value)(r:LC⊕(Int×LC))(e:Ending)(w w':World):Prop:=
 (∀c',r=.inl c'->e=.returned (.tuple #[lnow q rdy c'.st,.nilIface])/\QH q p hB zs rdy w' c'/\QJ q p w w')/\(∀k cf,r=.inr (k,cf)->∃v,e=.returned (.tuple #[v,flt k])/\QH q p hB zs rdy w' cf/\QJ q p w w')
theorem Qu.ok{c':LC}(hv:v=lnow q rdy c'.st)(hM:QH q p hB zs rdy w' c')(hT:QJ q p w w'):Qu q p hB zs rdy (.inl c') (.returned (.tuple #[v,.nilIface])) w w':=by
 subst hv;refine ⟨fun c h=>?_,fun k cf h=>?_⟩
 ·injection h with h;subst h;exact ⟨rfl,hM,hT⟩
 ·cases h
theorem Qu.no{k:Int}{cf:LC}(hM:QH q p hB zs rdy w' cf)(hT:QJ q p w w'):Qu q p hB zs rdy (.inr (k,cf)) (.returned (.tuple #[v,flt k])) w w':=by
 refine ⟨fun c h=>?_,fun k' cf' h=>?_⟩
 ·cases h
 ·injection h with h;injection h with h1 h2;subst h1;subst h2;exact ⟨v,rfl,hM,hT⟩
theorem QH.at{c:LC}(h:QH q p hB zs rdy w c)(s:Nat)(h1:1<=s->s<=3->1<=c.st/\c.st<=3)(h4:4<=s->4<=c.st):QH q p hB zs rdy w {c with st:=s}:=by
 obtain ⟨B,v,b1,b2,Z,H,b5,b6,b7,b8⟩:=h.own;exact ⟨h.ne,h.neh,h.two,h.rd,h.c0,h.c1,h.num,h.c25,h.c28,h.free,⟨B,v,b1,b2,Z,H,b5,b6,(fun x y=>b7 (h1 x y).1 (h1 x y).2),(fun x=>b8 (h4 x))⟩,h.g0,h.g1⟩
def QE(zs:List Int)(c:LC):LC⊕(Int×LC):=if c.i+4<=8*zs.length then .inl {c with st:=3,i:=c.i+4,f:=upd c.f 4 ((field (bnum zs) c.i 4:Nat)+4)} else .inr (2,c)
def QF(zs:List Int)(c:LC):LC⊕(Int×LC):=
 if c.i+5<=8*zs.length then
  if ((field (bnum zs) c.i 5:Nat):Int)+1 > 30 then .inr (3,{c with i:=c.i+5,f:=upd c.f 3 ((field (bnum zs) c.i 5:Nat)+1)}) else .inl {c with st:=2,i:=c.i+5,f:=upd c.f 3 ((field (bnum zs) c.i 5:Nat)+1)}
 else .inr (2,c)
theorem VM(x i n:Nat)(hn:n<=7):field x i n<128:=Nat.lt_of_lt_of_le (Q4 _ _ _) (show 2^n<=128 from Nat.pow_le_pow_right (n:=2) dn hn)
theorem Qgt(q p hB:Nat)(zs:List Int)(rdy:Value)(c:LC)(w:World)(hM:QH q p hB zs rdy w c)(hs:c.st=2)(hz:Qh zs)(hzl:zs.length<=65536):
  Calls prog 192 #[.pointer (some ⟨q,0,none⟩)] w fun e w'=>Qu q p hB zs rdy (QE zs c) e w w':=by
 have y:=hM.lt;have HM:=Qe hM;have HS:=Qe hs;clear hs;unfold QE;by_cases M:c.i+4<=8*zs.length
 ·rw [if_pos M]
  have HN:=Qe<|Q7 q p hB zs c.i 4 w hM.c0 hM.rd hz hzl dn M
  have Y:=VM (bnum zs) c.i 4 dn;generalize field (bnum zs) c.i 4=F at*;clear hM M;go_enter func192,ntmps192;go_wp2_with fail;refine Calls.mono HN.u ?_;rintro e w1 ⟨rfl,P,O⟩;have A:=HM.u.went P O;have I:=Qe<|(A.set 4 dE ((F:Int)+4)).at 3 (fun _ _=>by rw [show ({c with i:=c.i+4,f:=upd c.f 4 ((F:Int)+4)}:LC).st=c.st from rfl,HS.u];omega) (fun h=>dk)
  have al:=Qe<|(QJ.num HM.u.ne y O).trans (QJ.set 4 (.int .i64 ((F:Int)+4)) dn)
  have q4:=A.num 4 dE;have f4:=A.free 4;clear A P O HN HM;go_wp2_with fail;exact bodyPost_ret (v:=.tuple #[.func (Fn.func 199) #[.pointer (some ⟨q,0,none⟩)] #[],.nilIface]) (by simp [results,results192,go_sem]) rfl (Qu.ok rfl I.u al.u)
 ·rw [if_neg M]
  have HN:=Qe<|Vi q p hB zs c.i 4 w hM.c0 hM.rd hzl dn M
  clear hM M;unfold flt at HN;go_enter func192,ntmps192;go_wp2_with fail;refine Calls.mono HN.u ?_;rintro e w1 ⟨rfl,hb⟩;refine jz ?_;intro I al;clear hb HN HM;go_wp2_with fail;exact bodyPost_ret (v:=.tuple #[.nilFunc,flt 2]) (by simp [results,results192,go_sem,flt]) rfl (Qu.no I.u al.u)
end
theorem Qgl(q p hB:Nat)(zs:List Int)(rdy:Value)(c:LC)(w:World)(hM:QH q p hB zs rdy w c)(hs:c.st=1)(hz:Qh zs)(hzl:zs.length<=65536):
  Calls prog 178 #[.pointer (some ⟨q,0,none⟩)] w fun e w'=>Qu q p hB zs rdy (QF zs c) e w w':=by
 have y:=hM.lt;have HM:=Qe hM;have HS:=Qe hs;clear hs;unfold QF;by_cases M:c.i+5<=8*zs.length
 ·rw [if_pos M]
  have HN:=Qe<|Q7 q p hB zs c.i 5 w hM.c0 hM.rd hz hzl dn M
  have Y:=VM (bnum zs) c.i 5 dn;generalize field (bnum zs) c.i 5=F at*;clear hM M;by_cases hx:(F:Int)+1 > 30
  ·rw [if_pos hx]
   go_enter func178,ntmps178;go_wp2_with fail;refine Calls.mono HN.u ?_;rintro e w1 ⟨rfl,P,O⟩;have A:=HM.u.went P O;have al:=Qe<|(QJ.num HM.u.ne y O).trans (QJ.set 3 (.int .i64 ((F:Int)+1)) dn)
   have q3:=A.num 3 dE;have f3:=A.free 3;have a:=Qe<|A.set 3 dE ((F:Int)+1)
   clear A P O HN HM;go_wp2_with fail;exact bodyPost_ret (v:=.tuple #[.nilFunc,flt 3]) nK rfl (Qu.no a.u al.u)
  ·rw [if_neg hx]
   have aM:decide ((F:Int)+1 > 30)=false:=decide_eq_false hx;go_enter func178,ntmps178;go_wp2_with fail;refine Calls.mono HN.u ?_;rintro e w1 ⟨rfl,P,O⟩;have A:=HM.u.went P O;have I:=Qe<|(A.set 3 dE ((F:Int)+1)).at 2 (fun _ _=>by rw [show ({c with i:=c.i+5,f:=upd c.f 3 ((F:Int)+1)}:LC).st=c.st from rfl,HS.u];omega) (fun h=>dk)
   have al:=Qe<|(QJ.num HM.u.ne y O).trans (QJ.set 3 (.int .i64 ((F:Int)+1)) dn)
   have q3:=A.num 3 dE;have f3:=A.free 3;clear A P O HN HM;go_wp2_with fail;exact bodyPost_ret (v:=.tuple #[.func (Fn.func 192) #[.pointer (some ⟨q,0,none⟩)] #[],.nilIface]) (by simp [results,results178,go_sem]) rfl (Qu.ok rfl I.u al.u)
 ·rw [if_neg M]
  have HN:=Qe<|Vi q p hB zs c.i 5 w hM.c0 hM.rd hzl dn M
  clear hM M;unfold flt at HN;go_enter func178,ntmps178;go_wp2_with fail;refine Calls.mono HN.u ?_;rintro e w1 ⟨rfl,hb⟩;refine jz ?_;intro I al;clear hb HN HM;go_wp2_with fail;exact bodyPost_ret (v:=.tuple #[.nilFunc,flt 2]) nK rfl (Qu.no I.u al.u)
end Go.Proofs.YtgginbpmebgkcaaGreatDoor
