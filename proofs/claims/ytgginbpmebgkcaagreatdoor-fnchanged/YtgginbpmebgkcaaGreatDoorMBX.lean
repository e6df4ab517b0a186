import Derived.Test.YtgginbpmebgkcaaGreatDoorMBO
import Derived.Test.YtgginbpmebgkcaaGreatDoorMBP
namespace Go.Proofs.YtgginbpmebgkcaaGreatDoor
open Go.RowKit Go.Proofs.Tryz
attribute [local go_sem ↓] Go.wp_at_zero Go.wp_at_succ
set_option linter.unusedVariables false
set_option maxRecDepth 100000
set_option maxHeartbeats 25600000
section
theorem ee{P:Prop}(h:P:=by clear hb b0 b1 b2;obtain ⟨b0,b1,b2,C⟩:=B1.u.b;refine dA ?_;intro ag G ae;clear C BW;go_wp2_with fail;go_meet;exact ⟨rfl,E1⟩):P:=h
theorem gq{P:Prop}(h:P:=by go_wp2_with fail;go_meet;exact ⟨rfl,E1⟩):P:=h
theorem lV{P:Prop}(h:P:=by obtain ⟨rfl,rfl⟩:=YY.u.2 (fun h=>by subst h;simp at A);go_wp2_with fail;go_meet;exact BW):P:=h
theorem lW{P:Prop}(h:P:=by clear I o;go_wp2_with fail;go_meet;exact E4):P:=h
theorem sW{P:Prop}(h:P:=by rintro e w2 ⟨rfl,rfl⟩;go_wp2_with fail;go_meet;exact ⟨rfl,BW⟩):P:=h
theorem sV{P:Prop}(h:P:=by clear aL;go_wp2_with fail;go_meet;exact ⟨by rw [<-d.u],BW⟩):P:=h
variable{w W w':World}{C:Nat->Value}{v:Value}{i z:Nat}{c fl:Int}
structure M8(W:World)(g:Nat)(C:Nat->Value):Prop where
 c:∀k,k<8->W.cell? ⟨g,k,none⟩=some (C k)
 f:∀k,W.frozen? ⟨g,k,none⟩=false
theorem M8.lt(h:M8 w z C):z<w.heap.size:=World.block_lt_of_cell? w _ (h.c 0 dn)
theorem M8.same(h:M8 w z C)(hb:w'.heap[z]?=w.heap[z]?):M8 w' z C:=
 ⟨fun k hk=>(World.cell?_of_block (w:=w) (a:=⟨z,k,none⟩) hb).trans (h.c k hk),fun k=>(World.frozen?_of_block (w:=w) (a:=⟨z,k,none⟩) hb).trans (h.f k)⟩
theorem M8.below(h:M8 w z C)(hb:Below w.heap.size w w'):M8 w' z C:=h.same (hb.block z h.lt)
theorem M8.grown{row:Option Nat}(h:M8 w z C)(hg:w.grownBy w' row)(hne:some z≠row):M8 w' z C:=h.same (hg.block z h.lt hne)
theorem M8.set(h:M8 w z C)(j:Nat)(v:Value):M8 (w.setCell ⟨z,j,none⟩ v) z (VE C j v):=rG
def mZ:Nat->Value:=fun k=>if k=4\/k=5\/k=6 then .slice none 0 0 else .int .i64 0
theorem QkE(w:World)(t:TypeId):M8 (w.alloc (.cells #[.int .i64 0,.int .i64 0,.int .i64 0,.int .i64 0,.slice none 0 0,.slice none 0 0,.slice none 0 0,.int .i64 0] t)) w.heap.size mZ:=by
 refine ⟨fun k hk=>?_,fun k=>dF⟩;have h:k=0\/k=1\/k=2\/k=3\/k=4\/k=5\/k=6\/k=7:=dk;rcases h with rfl|rfl|rfl|rfl|rfl|rfl|rfl|rfl<;>simp [go_sem,mZ]
def MOk(C:Nat->Value):Prop:=(∀k,k<4\/k=7->∃a,C k=.int .i64 a)/\(∀k,4<=k->k<=6->∃a n c,C k=.slice a n c)
theorem QpP:MOk mZ:=⟨fun k h=>⟨0,by unfold mZ;rw [if_neg dk]⟩,fun k h1 h2=>⟨none,0,0,by unfold mZ;rw [if_pos dk]⟩⟩
theorem MOk.int(h:MOk C)(j:Nat)(x:Int)(hj:j<4\/j=7):MOk (VE C j (.int .i64 x)):=by
 refine ⟨fun k hk=>?_,fun k h1 h2=>?_⟩
 ·unfold VE
  split
  ·exact ⟨x,rfl⟩
  ·exact h.1 k hk
 ·unfold VE
  rw [if_neg dk];exact h.2 k h1 h2
theorem MOk.sl(h:MOk C)(j:Nat)(a:Option Addr)(n c:Nat)(hj:4<=j/\j<=6):MOk (VE C j (.slice a n c)):=by
 refine ⟨fun k hk=>?_,fun k h1 h2=>?_⟩
 ·unfold VE
  rw [if_neg dk];exact h.1 k hk
 ·unfold VE
  split
  ·exact ⟨a,n,c,rfl⟩
  ·exact h.2 k h1 h2
structure HM(w:World)(v:Value)(i:Nat)(c fl:Int)(W:World):Prop where
 b:L5m W w.heap.size v (i:Nat) c
 r:L5m W (w.heap.size+1) (.slice none 0 0) 0 0
 m2:M8 W (w.heap.size+2) mZ
 m3:∃C,M8 W (w.heap.size+3) C/\MOk C/\C 0=.int .i64 fl
 l:Below w.heap.size w W
theorem HM.below{W':World}(h:HM w v i c fl W)(hb:Below W.heap.size W W'):HM w v i c fl W':=by
 obtain ⟨C,J,h2,h3⟩:=h.m3;exact ⟨h.b.below hb,h.r.below hb,h.m2.below hb,⟨C,J.below hb,h2,h3⟩,h.l.trans (hb.mono h.l.size)⟩
theorem HM.setR(h:HM w v i c fl W)(i':Nat)(c':Int):HM w v i' c' fl (((W.setCell ⟨w.heap.size,0,none⟩ v).setCell ⟨w.heap.size,1,none⟩ (.int .i64 (i':Nat))).setCell ⟨w.heap.size,2,none⟩ (.int .i64 c')):=by
 obtain ⟨C,J,h2,h3⟩:=h.m3;obtain ⟨e1,e2⟩:=h.b.set v (i':Nat) c'
 exact ⟨e1,h.r.grown e2 dr,h.m2.grown e2 dr,⟨C,J.grown e2 dr,h2,h3⟩,h.l.grown e2 h.l.size dz⟩
theorem HM.setM{fl':Int}(h:HM w v i c fl W)(j:Nat)(x:Value)(hx:∀C,MOk C->C 0=.int .i64 fl->MOk (VE C j x)/\VE C j x 0=.int .i64 fl'):HM w v i c fl' (W.setCell ⟨w.heap.size+3,j,none⟩ x):=by
 obtain ⟨C,J,h2,h3⟩:=h.m3;have e2:=Qf W ⟨w.heap.size+3,j,none⟩ x;exact ⟨h.b.grown e2 dr,h.r.grown e2 dr,h.m2.grown e2 dr,⟨_,J.set j x,hx C h2 h3⟩,h.l.grown e2 h.l.size dz⟩
theorem HM.setF(h:HM w v i c fl W)(x:Int):HM w v i c x (W.setCell ⟨w.heap.size+3,0,none⟩ (.int .i64 x)):=h.setM 0 _ (fun C h2 h3=>⟨h2.int 0 x dk,rfl⟩)
theorem HM.setI(h:HM w v i c fl W)(j:Nat)(x:Int)(hj:1<=j/\j<4):HM w v i c fl (W.setCell ⟨w.heap.size+3,j,none⟩ (.int .i64 x)):=h.setM j _ (fun C h2 h3=>⟨h2.int j x dk,sS⟩)
theorem HM.setS(h:HM w v i c fl W)(j:Nat)(a:Option Addr)(n cp:Nat)(hj:4<=j/\j<=6):HM w v i c fl (W.setCell ⟨w.heap.size+3,j,none⟩ (.slice a n cp)):=h.setM j _ (fun C h2 h3=>⟨h2.sl j a n cp hj,sS⟩)
theorem HM.cellI(h:HM w v i c fl W):∃f1 f2 f3 f7:Int,∃(a4:Option Addr) (n4 k4:Nat) (a5:Option Addr) (n5 k5:Nat) (a6:Option Addr) (n6 k6:Nat),(W.cell? ⟨w.heap.size+3,0,none⟩=some (.int .i64 fl)/\W.cell? ⟨w.heap.size+3,1,none⟩=some (.int .i64 f1)/\W.cell? ⟨w.heap.size+3,2,none⟩=some (.int .i64 f2)/\W.cell? ⟨w.heap.size+3,3,none⟩=some (.int .i64 f3)/\W.cell? ⟨w.heap.size+3,4,none⟩=some (.slice a4 n4 k4)/\W.cell? ⟨w.heap.size+3,5,none⟩=some (.slice a5 n5 k5)/\W.cell? ⟨w.heap.size+3,6,none⟩=some (.slice a6 n6 k6)/\W.cell? ⟨w.heap.size+3,7,none⟩=some (.int .i64 f7))/\(∀k,W.frozen? ⟨w.heap.size+3,k,none⟩=false)/\w.heap.size+3<W.heap.size:=by
 obtain ⟨C,J,h2,h3⟩:=h.m3;refine sU ?_;intro f1 e1 f2 e2 f3 R f7 e7 a4 n4 k4 V a5 n5 k5 e5 a6 n6 k6 e6;refine ⟨f1,f2,f3,f7,a4,n4,k4,a5,n5,k5,a6,n6,k6,⟨?_,?_,?_,?_,?_,?_,?_,?_⟩,J.f,J.lt⟩
 ·rw [J.c 0 dn,h3]
 ·rw [J.c 1 dn,e1]
 ·rw [J.c 2 dn,e2]
 ·rw [J.c 3 dn,R]
 ·rw [J.c 4 dn,V]
 ·rw [J.c 5 dn,e5]
 ·rw [J.c 6 dn,e6]
 ·rw [J.c 7 dn,e7]
theorem QcF(a b:Nat):((a:Int) != (b:Int))=decide (a≠b):=by
 by_cases h:a=b
 ·subst h;simp
 ·have h2:¬(a:Int)=(b:Int):=dk
  simp [h];exact h2
theorem QqP(w:World)(v:Value)(i:Nat)(cl:Int)(t t2:TypeId):HM w v i cl 0 ((((w.alloc (.cells #[v,.int .i64 (i:Nat),.int .i64 cl] t)).alloc (.cells #[.slice none 0 0,.int .i64 0,.int .i64 0] t)).alloc (.cells #[.int .i64 0,.int .i64 0,.int .i64 0,.int .i64 0,.slice none 0 0,.slice none 0 0,.slice none 0 0,.int .i64 0] t2)).alloc (.cells #[.int .i64 0,.int .i64 0,.int .i64 0,.int .i64 0,.slice none 0 0,.slice none 0 0,.slice none 0 0,.int .i64 0] t2)):=by
 have b2:∀(x:World) A,Below x.heap.size x (x.alloc A):=fun x A=>(Below.refl _ _).alloc (Nat.le_refl _) _
 have J:=VI w v (i:Nat) cl t;have h2:=VI (w.alloc (.cells #[v,.int .i64 (i:Nat),.int .i64 cl] t)) (.slice none 0 0) 0 0 t;have h3:=QkE ((w.alloc (.cells #[v,.int .i64 (i:Nat),.int .i64 cl] t)).alloc (.cells #[.slice none 0 0,.int .i64 0,.int .i64 0] t)) t2;have h4:=QkE (((w.alloc (.cells #[v,.int .i64 (i:Nat),.int .i64 cl] t)).alloc (.cells #[.slice none 0 0,.int .i64 0,.int .i64 0] t)).alloc (.cells #[.int .i64 0,.int .i64 0,.int .i64 0,.int .i64 0,.slice none 0 0,.slice none 0 0,.slice none 0 0,.int .i64 0] t2)) t2;simp only [World.size_alloc] at h2 h3 h4;exact ⟨((J.below (b2 _ _)).below (b2 _ _)).below (b2 _ _),(h2.below (b2 _ _)).below (b2 _ _),h3.below (b2 _ _),⟨mZ,h4,QpP,rfl⟩,((((Below.refl _ _).alloc (Nat.le_refl _) _).alloc dr _).alloc du _).alloc du _⟩
theorem Qh8(gb of cap:Nat)(zs:List Int)(i:Nat)(cl:Int)(w:World)(hr:Q1 w (some ⟨gb,of,none⟩) zs)(hz:Qh zs)(hl:zs.length<=65536)(hcap:zs.length<=cap)(hcm:cap<=maxLen)(hi:i<=8*zs.length):
  Calls prog 47 #[.agg #[.slice (some ⟨gb,of,none⟩) zs.length cap,.int .i64 (i:Nat),.int .i64 cl]] w fun e w'=>
   ∃(f0 f1 f2 f3 f7:Int) (a4:Option Addr) (n4 k4:Nat) (a5:Option Addr) (n5 k5:Nat) (a6:Option Addr) (n6 k6:Nat),e=.returned (.tuple #[.agg #[.slice (some ⟨gb,of,none⟩) zs.length cap,.int .i64 ((hdR zs (i,cl)).1:Nat),.int .i64 (hdR zs (i,cl)).2],.agg #[.int .i64 f0,.int .i64 f1,.int .i64 f2,.int .i64 f3,.slice a4 n4 k4,.slice a5 n5 k5,.slice a6 n6 k6,.int .i64 f7]])/\Below w.heap.size w w':=by
 have aw:dm (∀W (r:RR) (n:Nat),Below w.heap.size w W->r.1<=8*zs.length->n<=32->Calls prog 48 #[.agg #[.slice (some ⟨gb,of,none⟩) zs.length cap,.int .i64 (r.1:Nat),.int .i64 r.2],.int .i64 (n:Nat)] W fun e w'=>e=.returned (.tuple #[.agg #[.slice (some ⟨gb,of,none⟩) zs.length cap,.int .i64 ((tk zs r n).1.1:Nat),.int .i64 (tk zs r n).1.2],.int .i64 ((tk zs r n).2:Nat)])/\Below W.heap.size W w'):=fun W r n hW J h2=>VN _ cap zs r.1 n r.2 W (hr.below hW) hz hl J h2
 have bb:dm (∀W (r:RR) (n:Nat),Below w.heap.size w W->r.1<=8*zs.length->n<=65535->Calls prog 83 #[.agg #[.slice (some ⟨gb,of,none⟩) zs.length cap,.int .i64 (r.1:Nat),.int .i64 r.2],.int .i64 (n:Nat)] W fun e w'=>∃a m c,e=.returned (.tuple #[.agg #[.slice (some ⟨gb,of,none⟩) zs.length cap,.int .i64 ((byN zs n r).1:Nat),.int .i64 (byN zs n r).2],.slice a m c])/\Below W.heap.size W w'):=fun W r n hW J h2=>Qii _ cap zs r.1 n r.2 W (hr.below hW) hz hl J h2
 have bw:dm (∀W (r:RR),Below w.heap.size w W->r.1<=8*zs.length->Calls prog 84 #[.agg #[.slice (some ⟨gb,of,none⟩) zs.length cap,.int .i64 (r.1:Nat),.int .i64 r.2]] W fun e w'=>∃a m c,e=.returned (.tuple #[.agg #[.slice (some ⟨gb,of,none⟩) zs.length cap,.int .i64 ((txN zs (zs.length+1) r).1:Nat),.int .i64 (txN zs (zs.length+1) r).2],.slice a m c])/\Below W.heap.size W w'):=fun W r hW J=>Qkg _ cap zs r.1 r.2 W (hr.below hW) hz hl J
 obtain ⟨F,Y⟩:=dt (i/8);have bN:dm (∀W (U:Nat),Below w.heap.size w W->F<=U->U<=zs.length->(∀c,Calls prog 16 #[.int .u32 0,.slice (some ⟨gb,of+F,none⟩) (U-F) c] W fun e w'=>e=.returned (.int .u32 (crcU 0 ((zs.drop F).take (U-F)):Nat))/\w'=W)/\(F=U->∀(a:Option Addr) (c:Nat),Calls prog 16 #[.int .u32 0,.slice a 0 c] W fun e w'=>e=.returned (.int .u32 (crcU 0 ((zs.drop F).take (U-F)):Nat))/\w'=W)):=fun W U hW J h2=>by
  refine ⟨fun c=>?_,fun h3 a c=>?_⟩
  ·have hd:Qh ((zs.drop F).take (U-F)):=fun v hv=>hz v (List.mem_of_mem_drop (List.mem_of_mem_take hv))
   have ai:((zs.drop F).take (U-F)).length=U-F:=kh;have h:=QbO 0 dn (some ⟨gb,of+F,none⟩) c ((zs.drop F).take (U-F)) W (((hr.below hW).dropped F).taken (U-F)) hd (by rw [ai];omega);rw [ai] at h;exact h
  ·have h:=QbO 0 dn a c [] W (Q1.nil _ _) (fun v hv=>d9) (by show (0:Nat)<=_;omega)
   rw [show U-F=0 by omega];exact h
 have bk:dm (i<=8*zs.length/\i<=i):=⟨hi,Nat.le_refl _⟩;obtain ⟨i1,c1,u,e1⟩:=dH (tk zs (i,cl) 8);have cv:dm (∀W,Below w.heap.size w W->Calls prog 48 #[.agg #[.slice (some ⟨gb,of,none⟩) zs.length cap,.int .i64 (i:Nat),.int .i64 cl],.int .i64 8] W fun e w'=>e=.returned (.tuple #[.agg #[.slice (some ⟨gb,of,none⟩) zs.length cap,.int .i64 (i1:Nat),.int .i64 c1],.int .i64 (u:Nat)])/\Below W.heap.size W w'):=fun W hW=>by have h:=aw.u W (i,cl) 8 hW bk.u.1 dn;rw [e1] at h;exact h
 have bF:dm (i1<=8*zs.length/\i<=i1):=by have J:=Qar (zs:=zs) (r:=(i,cl)) (n:=8) bk.u.1;have h2:=Qaf zs (i,cl) 8;rw [e1] at J h2;exact ⟨J,Nat.le_trans bk.u.2 h2⟩
 have aV:u<256:=by have h:=Qbr zs (i,cl) 8;rw [e1] at h;exact h
 obtain ⟨b2,ah⟩:=dt (((u:Int) != 31));obtain ⟨i2,c2,e2⟩:=dI (VJ (i1,c1) b2);have bP:dm (∀W,Calls prog 40 #[.agg #[.slice (some ⟨gb,of,none⟩) zs.length cap,.int .i64 (i1:Nat),.int .i64 c1],.bool b2] W fun e w'=>e=.returned (.agg #[.slice (some ⟨gb,of,none⟩) zs.length cap,.int .i64 (i2:Nat),.int .i64 c2])/\Below W.heap.size W w'):=fun W=>by have h:=Q0 (some ⟨gb,of,none⟩) zs.length cap i1 c1 b2 W;rw [e2] at h;exact h
 have a0:dm (i2<=8*zs.length/\i<=i2):=by have J:=Qbd (i1,c1) b2;rw [e2] at J;have h2:i2=i1:=J;rw [h2];exact bF.u
 obtain ⟨i3,c3,x3,R⟩:=dH (tk zs (i2,c2) 8);have cj:dm (∀W,Below w.heap.size w W->Calls prog 48 #[.agg #[.slice (some ⟨gb,of,none⟩) zs.length cap,.int .i64 (i2:Nat),.int .i64 c2],.int .i64 8] W fun e w'=>e=.returned (.tuple #[.agg #[.slice (some ⟨gb,of,none⟩) zs.length cap,.int .i64 (i3:Nat),.int .i64 c3],.int .i64 (x3:Nat)])/\Below W.heap.size W w'):=fun W hW=>by have h:=aw.u W (i2,c2) 8 hW a0.u.1 dn;rw [R] at h;exact h
 have cw:dm (i3<=8*zs.length/\i<=i3):=by have J:=Qar (zs:=zs) (r:=(i2,c2)) (n:=8) a0.u.1;have h2:=Qaf zs (i2,c2) 8;rw [R] at J h2;exact ⟨J,Nat.le_trans a0.u.2 h2⟩
 have c0:x3<256:=by have h:=Qbr zs (i2,c2) 8;rw [R] at h;exact h
 obtain ⟨H,T⟩:=dt (((x3:Int) != 139));obtain ⟨i4,c4,V⟩:=dI (VJ (i3,c3) H);have bB:dm (∀W,Calls prog 40 #[.agg #[.slice (some ⟨gb,of,none⟩) zs.length cap,.int .i64 (i3:Nat),.int .i64 c3],.bool H] W fun e w'=>e=.returned (.agg #[.slice (some ⟨gb,of,none⟩) zs.length cap,.int .i64 (i4:Nat),.int .i64 c4])/\Below W.heap.size W w'):=fun W=>by have h:=Q0 (some ⟨gb,of,none⟩) zs.length cap i3 c3 H W;rw [V] at h;exact h
 have a':dm (i4<=8*zs.length/\i<=i4):=by have J:=Qbd (i3,c3) H;rw [V] at J;have h2:i4=i3:=J;rw [h2];exact cw.u
 obtain ⟨i5,c5,x5,e5⟩:=dH (tk zs (i4,c4) 8);have cy:dm (∀W,Below w.heap.size w W->Calls prog 48 #[.agg #[.slice (some ⟨gb,of,none⟩) zs.length cap,.int .i64 (i4:Nat),.int .i64 c4],.int .i64 8] W fun e w'=>e=.returned (.tuple #[.agg #[.slice (some ⟨gb,of,none⟩) zs.length cap,.int .i64 (i5:Nat),.int .i64 c5],.int .i64 (x5:Nat)])/\Below W.heap.size W w'):=fun W hW=>by have h:=aw.u W (i4,c4) 8 hW a'.u.1 dn;rw [e5] at h;exact h
 have bM:dm (i5<=8*zs.length/\i<=i5):=by have J:=Qar (zs:=zs) (r:=(i4,c4)) (n:=8) a'.u.1;have h2:=Qaf zs (i4,c4) 8;rw [e5] at J h2;exact ⟨J,Nat.le_trans a'.u.2 h2⟩
 have aY:x5<256:=by have h:=Qbr zs (i4,c4) 8;rw [e5] at h;exact h
 obtain ⟨b6,aj⟩:=dt (((x5:Int) != 8));obtain ⟨i6,c6,e6⟩:=dI (VJ (i5,c5) b6);have bU:dm (∀W,Calls prog 40 #[.agg #[.slice (some ⟨gb,of,none⟩) zs.length cap,.int .i64 (i5:Nat),.int .i64 c5],.bool b6] W fun e w'=>e=.returned (.agg #[.slice (some ⟨gb,of,none⟩) zs.length cap,.int .i64 (i6:Nat),.int .i64 c6])/\Below W.heap.size W w'):=fun W=>by have h:=Q0 (some ⟨gb,of,none⟩) zs.length cap i5 c5 b6 W;rw [e6] at h;exact h
 have bp:dm (i6<=8*zs.length/\i<=i6):=by have J:=Qbd (i5,c5) b6;rw [e6] at J;have h2:i6=i5:=J;rw [h2];exact bM.u
 obtain ⟨i7,c7,g,e7⟩:=dH (tk zs (i6,c6) 8);have bK:dm (∀W,Below w.heap.size w W->Calls prog 48 #[.agg #[.slice (some ⟨gb,of,none⟩) zs.length cap,.int .i64 (i6:Nat),.int .i64 c6],.int .i64 8] W fun e w'=>e=.returned (.tuple #[.agg #[.slice (some ⟨gb,of,none⟩) zs.length cap,.int .i64 (i7:Nat),.int .i64 c7],.int .i64 (g:Nat)])/\Below W.heap.size W w'):=fun W hW=>by have h:=aw.u W (i6,c6) 8 hW bp.u.1 dn;rw [e7] at h;exact h
 have bz:dm (i7<=8*zs.length/\i<=i7):=by have J:=Qar (zs:=zs) (r:=(i6,c6)) (n:=8) bp.u.1;have h2:=Qaf zs (i6,c6) 8;rw [e7] at J h2;exact ⟨J,Nat.le_trans bp.u.2 h2⟩
 have cI:g<256:=by have h:=Qbr zs (i6,c6) 8;rw [e7] at h;exact h
 obtain ⟨b8,j⟩:=dt (decide ((g:Int) > 31));obtain ⟨i8,c8,e8⟩:=dI (VJ (i7,c7) b8);have bZ:dm (∀W,Calls prog 40 #[.agg #[.slice (some ⟨gb,of,none⟩) zs.length cap,.int .i64 (i7:Nat),.int .i64 c7],.bool b8] W fun e w'=>e=.returned (.agg #[.slice (some ⟨gb,of,none⟩) zs.length cap,.int .i64 (i8:Nat),.int .i64 c8])/\Below W.heap.size W w'):=fun W=>by have h:=Q0 (some ⟨gb,of,none⟩) zs.length cap i7 c7 b8 W;rw [e8] at h;exact h
 have bd:dm (i8<=8*zs.length/\i<=i8):=by have J:=Qbd (i7,c7) b8;rw [e8] at J;have h2:i8=i7:=J;rw [h2];exact bz.u
 obtain ⟨i9,c9,x9,e9⟩:=dH (tk zs (i8,c8) 32);have cq:dm (∀W,Below w.heap.size w W->Calls prog 48 #[.agg #[.slice (some ⟨gb,of,none⟩) zs.length cap,.int .i64 (i8:Nat),.int .i64 c8],.int .i64 32] W fun e w'=>e=.returned (.tuple #[.agg #[.slice (some ⟨gb,of,none⟩) zs.length cap,.int .i64 (i9:Nat),.int .i64 c9],.int .i64 (x9:Nat)])/\Below W.heap.size W w'):=fun W hW=>by have h:=aw.u W (i8,c8) 32 hW bd.u.1 dn;rw [e9] at h;exact h
 have bh:dm (i9<=8*zs.length/\i<=i9):=by have J:=Qar (zs:=zs) (r:=(i8,c8)) (n:=32) bd.u.1;have h2:=Qaf zs (i8,c8) 32;rw [e9] at J h2;exact ⟨J,Nat.le_trans bd.u.2 h2⟩
 have bX:x9<4294967296:=by have h:=Qbr zs (i8,c8) 32;rw [e9] at h;exact h
 obtain ⟨P,ad,aS,ax⟩:=dH (tk zs (i9,c9) 8);have bq:dm (∀W,Below w.heap.size w W->Calls prog 48 #[.agg #[.slice (some ⟨gb,of,none⟩) zs.length cap,.int .i64 (i9:Nat),.int .i64 c9],.int .i64 8] W fun e w'=>e=.returned (.tuple #[.agg #[.slice (some ⟨gb,of,none⟩) zs.length cap,.int .i64 (P:Nat),.int .i64 ad],.int .i64 (aS:Nat)])/\Below W.heap.size W w'):=fun W hW=>by have h:=aw.u W (i9,c9) 8 hW bh.u.1 dn;rw [ax] at h;exact h
 have aH:dm (P<=8*zs.length/\i<=P):=by have J:=Qar (zs:=zs) (r:=(i9,c9)) (n:=8) bh.u.1;have h2:=Qaf zs (i9,c9) 8;rw [ax] at J h2;exact ⟨J,Nat.le_trans bh.u.2 h2⟩
 have bQ:aS<256:=by have h:=Qbr zs (i9,c9) 8;rw [ax] at h;exact h
 obtain ⟨K,y,aX,aW⟩:=dH (tk zs (P,ad) 8);have bl:dm (∀W,Below w.heap.size w W->Calls prog 48 #[.agg #[.slice (some ⟨gb,of,none⟩) zs.length cap,.int .i64 (P:Nat),.int .i64 ad],.int .i64 8] W fun e w'=>e=.returned (.tuple #[.agg #[.slice (some ⟨gb,of,none⟩) zs.length cap,.int .i64 (K:Nat),.int .i64 y],.int .i64 (aX:Nat)])/\Below W.heap.size W w'):=fun W hW=>by have h:=aw.u W (P,ad) 8 hW aH.u.1 dn;rw [aW] at h;exact h
 have ao:dm (K<=8*zs.length/\i<=K):=by have J:=Qar (zs:=zs) (r:=(P,ad)) (n:=8) aH.u.1;have h2:=Qaf zs (P,ad) 8;rw [aW] at J h2;exact ⟨J,Nat.le_trans aH.u.2 h2⟩
 have cu:aX<256:=by have h:=Qbr zs (P,ad) 8;rw [aW] at h;exact h
 obtain ⟨fl,bO⟩:=dt g;obtain ⟨ab,av,aG,az⟩:=dH (tk zs (K,y) 16);have bm:dm (∀W,Below w.heap.size w W->Calls prog 48 #[.agg #[.slice (some ⟨gb,of,none⟩) zs.length cap,.int .i64 (K:Nat),.int .i64 y],.int .i64 16] W fun e w'=>e=.returned (.tuple #[.agg #[.slice (some ⟨gb,of,none⟩) zs.length cap,.int .i64 (ab:Nat),.int .i64 av],.int .i64 (aG:Nat)])/\Below W.heap.size W w'):=fun W hW=>by have h:=aw.u W (K,y) 16 hW ao.u.1 dn;rw [az] at h;exact h
 have aI:dm (ab<=8*zs.length/\i<=ab):=by have J:=Qar (zs:=zs) (r:=(K,y)) (n:=16) ao.u.1;have h2:=Qaf zs (K,y) 16;rw [az] at J h2;exact ⟨J,Nat.le_trans ao.u.2 h2⟩
 have cH:aG<65536:=by have h:=Qbr zs (K,y) 16;rw [az] at h;exact h
 obtain ⟨S,aF,aK⟩:=dI (byN zs aG (ab,av));have BY:dm (∀W,Below w.heap.size w W->Calls prog 83 #[.agg #[.slice (some ⟨gb,of,none⟩) zs.length cap,.int .i64 (ab:Nat),.int .i64 av],.int .i64 (aG:Nat)] W fun e w'=>∃a m c,e=.returned (.tuple #[.agg #[.slice (some ⟨gb,of,none⟩) zs.length cap,.int .i64 (S:Nat),.int .i64 aF],.slice a m c])/\Below W.heap.size W w'):=fun W hW=>by have h:=bb.u W (ab,av) aG hW aI.u.1 dk;rw [aK] at h;exact h
 have bt:dm (S<=8*zs.length/\i<=S):=by have J:=Qof (zs:=zs) aG (ab,av) aI.u.1;have h2:=Qob (zs:=zs) aG (ab,av);rw [aK] at J h2;exact ⟨J,Nat.le_trans aI.u.2 h2⟩
 obtain ⟨L,t,aU⟩:=dI ((if g/4%2=1 then (S,aF) else (K,y):RR));have al:dm (L<=8*zs.length/\i<=L):=by have h:=aU;split at h<;>(injection h with J h2;rw [<-J];first|exact bt.u|exact ao.u)
 have b':dm ((g/4%2=1->S=L/\aF=t)/\(¬g/4%2=1->K=L/\y=t)):=⟨fun h=>by have e:=aU;rw [if_pos h] at e;injection e with J h2;exact ⟨J,h2⟩,fun h=>by have e:=aU;rw [if_neg h] at e;injection e with J h2;exact ⟨J,h2⟩⟩;obtain ⟨aq,aB,aZ⟩:=dI (txN zs (zs.length+1) (L,t));have bs:dm (∀W,Below w.heap.size w W->Calls prog 84 #[.agg #[.slice (some ⟨gb,of,none⟩) zs.length cap,.int .i64 (L:Nat),.int .i64 t]] W fun e w'=>∃a m c,e=.returned (.tuple #[.agg #[.slice (some ⟨gb,of,none⟩) zs.length cap,.int .i64 (aq:Nat),.int .i64 aB],.slice a m c])/\Below W.heap.size W w'):=fun W hW=>by have h:=bw.u W (L,t) hW al.u.1;rw [aZ] at h;exact h
 have bo:dm (aq<=8*zs.length/\i<=aq):=by have J:=Qov (zs:=zs) (zs.length+1) (L,t) al.u.1;have h2:=Qji (zs:=zs) (zs.length+1) (L,t);rw [aZ] at J h2;exact ⟨J,Nat.le_trans al.u.2 h2⟩
 obtain ⟨M,N,D⟩:=dI ((if g/8%2=1 then (aq,aB) else (L,t):RR));have an:dm (M<=8*zs.length/\i<=M):=by have h:=D;split at h<;>(injection h with J h2;rw [<-J];first|exact bo.u|exact al.u)
 have ck:dm ((g/8%2=1->aq=M/\aB=N)/\(¬g/8%2=1->L=M/\t=N)):=⟨fun h=>by have e:=D;rw [if_pos h] at e;injection e with J h2;exact ⟨J,h2⟩,fun h=>by have e:=D;rw [if_neg h] at e;injection e with J h2;exact ⟨J,h2⟩⟩;obtain ⟨ak,aM,ay⟩:=dI (txN zs (zs.length+1) (M,N));have bn:dm (∀W,Below w.heap.size w W->Calls prog 84 #[.agg #[.slice (some ⟨gb,of,none⟩) zs.length cap,.int .i64 (M:Nat),.int .i64 N]] W fun e w'=>∃a m c,e=.returned (.tuple #[.agg #[.slice (some ⟨gb,of,none⟩) zs.length cap,.int .i64 (ak:Nat),.int .i64 aM],.slice a m c])/\Below W.heap.size W w'):=fun W hW=>by have h:=bw.u W (M,N) hW an.u.1;rw [ay] at h;exact h
 have br:dm (ak<=8*zs.length/\i<=ak):=by have J:=Qov (zs:=zs) (zs.length+1) (M,N) an.u.1;have h2:=Qji (zs:=zs) (zs.length+1) (M,N);rw [ay] at J h2;exact ⟨J,Nat.le_trans an.u.2 h2⟩
 obtain ⟨s,p,ar⟩:=dI ((if g/16%2=1 then (ak,aM) else (M,N):RR));have au:dm (s<=8*zs.length/\i<=s):=by have h:=ar;split at h<;>(injection h with J h2;rw [<-J];first|exact br.u|exact an.u)
 have cd:dm ((g/16%2=1->ak=s/\aM=p)/\(¬g/16%2=1->M=s/\N=p)):=⟨fun h=>by have e:=ar;rw [if_pos h] at e;injection e with J h2;exact ⟨J,h2⟩,fun h=>by have e:=ar;rw [if_neg h] at e;injection e with J h2;exact ⟨J,h2⟩⟩;obtain ⟨aQ,aN,bJ,b5⟩:=dH (tk zs (s,p) 16);have aT:dm (∀W,Below w.heap.size w W->Calls prog 48 #[.agg #[.slice (some ⟨gb,of,none⟩) zs.length cap,.int .i64 (s:Nat),.int .i64 p],.int .i64 16] W fun e w'=>e=.returned (.tuple #[.agg #[.slice (some ⟨gb,of,none⟩) zs.length cap,.int .i64 (aQ:Nat),.int .i64 aN],.int .i64 (bJ:Nat)])/\Below W.heap.size W w'):=fun W hW=>by have h:=aw.u W (s,p) 16 hW au.u.1 dn;rw [b5] at h;exact h
 obtain ⟨U,hU⟩:=dt (s/8);obtain ⟨CR,bj⟩:=dt (crcU 0 ((zs.drop F).take (U-F)));have cE:CR<4294967296:=by rw [<-bj];exact Qd0 0 dn _ (fun v hv=>hz v (List.mem_of_mem_drop (List.mem_of_mem_take hv)))
 have cD:F<=U:=by have:=au.u.2;omega
 have cC:U<=zs.length:=by have:=au.u.1;omega
 have aA:dm (∀W,Below w.heap.size w W->(∀c,Calls prog 16 #[.int .u32 0,.slice (some ⟨gb,of+F,none⟩) (U-F) c] W fun e w'=>e=.returned (.int .u32 (CR:Nat))/\w'=W)/\(F=U->∀(a:Option Addr) (c:Nat),Calls prog 16 #[.int .u32 0,.slice a 0 c] W fun e w'=>e=.returned (.int .u32 (CR:Nat))/\w'=W)):=fun W hW=>by have h:=bN.u W U hW cD cC;rw [bj] at h;exact h
 obtain ⟨CS,cB⟩:=dt (CR%65536);have cF:(CR:Int)%65536=(CS:Int):=dk;obtain ⟨b3,bC⟩:=dt (((bJ:Int) != (CS:Int)));obtain ⟨aP,aR,bu⟩:=dI (suP (aQ,aN) b3);have SU:dm (∀W,Calls prog 46 #[.agg #[.slice (some ⟨gb,of,none⟩) zs.length cap,.int .i64 (aQ:Nat),.int .i64 aN],.bool b3] W fun e w'=>e=.returned (.agg #[.slice (some ⟨gb,of,none⟩) zs.length cap,.int .i64 (aP:Nat),.int .i64 aR])/\Below W.heap.size W w'):=fun W=>by have h:=QcD (some ⟨gb,of,none⟩) zs.length cap aQ aN b3 W;rw [bu] at h;exact h
 obtain ⟨Q,O,ba⟩:=dI ((if g/2%2=1/\p=0 then (aP,aR) else (s,p):RR));have bH:dm ((g/2%2=1/\p=0->aP=Q/\aR=O)/\(¬(g/2%2=1/\p=0)->s=Q/\p=O)):=⟨fun h=>by have e:=ba;rw [if_pos h] at e;injection e with J h2;exact ⟨J,h2⟩,fun h=>by have e:=ba;rw [if_neg h] at e;injection e with J h2;exact ⟨J,h2⟩⟩;have HR:hdR zs (i,cl)=(Q,O):=by
  have a1:hdA zs (i,cl) 31=(i2,c2):=by unfold hdA;rw [e1,<-e2,<-ah];dsimp only;rw [show ((u:Int) != 31)=decide (u≠31) from QcF u 31]
  have a2:hdA zs (i2,c2) 139=(i4,c4):=by unfold hdA;rw [R,<-V,<-T];dsimp only;rw [show ((x3:Int) != 139)=decide (x3≠139) from QcF x3 139]
  have q:hdA zs (i4,c4) 8=(i6,c6):=by unfold hdA;rw [e5,<-e6,<-aj];dsimp only;rw [show ((x5:Int) != 8)=decide (x5≠8) from QcF x5 8]
  have a4:hdM zs (i,cl)=(i6,c6):=by unfold hdM;rw [a1,a2,q]
  have a5:hdF zs (i,cl)=g:=by unfold hdF;rw [a4,e7]
  have a6:hdG zs (i,cl)=(i8,c8):=by
   unfold hdG;rw [a5,a4,e7,<-e8,<-j];congr 1;by_cases h:31<g
   ·rw [decide_eq_true h,decide_eq_true dk]
   ·rw [decide_eq_false h,decide_eq_false dk]
  have a7:hdN zs (i,cl)=(K,y):=by unfold hdN;rw [a6,e9,ax,aW]
  have a8:hdX zs g (K,y)=(L,t):=by unfold hdX;rw [<-aU,az,aK]
  have a9:hdT zs g 8 (L,t)=(M,N):=by unfold hdT;rw [<-D,aZ]
  have cz:hdT zs g 16 (M,N)=(s,p):=by unfold hdT;rw [<-ar,ay]
  have cA:hdC zs F g (s,p)=(Q,O):=by
   unfold hdC hdS;rw [<-ba,b5];dsimp only;rw [hU,bj,cB,<-bu,<-bC,QcF]
  unfold hdR;rw [a5,a7,a8,a9,cz];dsimp only;rw [Y,cA]
 rw [HR];dsimp only;have cT:i<=524288:=dk;have cG:s<=524288:=by have:=au.u.1;omega
 have b7:(i:Int)/8=(F:Int):=dk;have cR:(s:Int)/8=(U:Int):=dk;clear HR aw bb bw bN e1 e2 R V e5 e6 e7 e8 e9 ax aW az aK aU aZ D ay ar b5 bu ba hr hz hi bk bF a0 cw a' bM bp bz bd bh aH ao aI bt al bo an br au bO fl bj aV c0 aY bX bQ cu;clear hU Y;generalize hZ:zs.length=Z at*;clear hZ;have N0:=Qe<|QqP w (.slice (some ⟨gb,of,none⟩) Z cap) i cl 85 28
 go_enter func47,ntmps47;go_upto_region 4 with fail;generalize (((w.alloc (.cells #[.slice (some ⟨gb,of,none⟩) Z cap,.int .i64 (i:Nat),.int .i64 cl] 85)).alloc (.cells #[.slice none 0 0,.int .i64 0,.int .i64 0] 85)).alloc (.cells #[.int .i64 0,.int .i64 0,.int .i64 0,.int .i64 0,.slice none 0 0,.slice none 0 0,.slice none 0 0,.int .i64 0] 28)).alloc (.cells #[.int .i64 0,.int .i64 0,.int .i64 0,.int .i64 0,.slice none 0 0,.slice none 0 0,.slice none 0 0,.int .i64 0] 28)=W4 at*;obtain ⟨wc,b9⟩:=dt W4;rw [b9] at N0 ⊢;clear b9 W4;have BW:=N0;clear N0;go_upto_region 4 with fail;go_cut [6] from 11 to 151 (fun x wx=>x=.int .i64 (u:Nat)/\dm (HM w (.slice (some ⟨gb,of,none⟩) Z cap) i1 c1 0 wx))
 case first=>
  as_aux_lemma=>
   obtain ⟨b0,b1,b2,_⟩:=BW.u.b;go_wp2_with fail;refine Calls.mono (cv.u _ BW.u.l) ?_;rintro e w1 ⟨rfl,hb⟩;have B1:=Qe<|BW.u.below hb
   have E1:=Qe<|B1.u.setR i1 c1
   exact ee
 case rest=>
 clear BW cv;obtain ⟨rfl,BW⟩:=hcut;go_upto_region 5 with fail;go_cut [6] from 11 to 151 (fun x wx=>x=.int .i64 (u:Nat)/\dm (HM w (.slice (some ⟨gb,of,none⟩) Z cap) i2 c2 0 wx))
 case first=>
  as_aux_lemma=>
   obtain ⟨b0,b1,b2,_⟩:=BW.u.b;go_wp2_with fail;refine Calls.mono (bP.u _) ?_;rintro e w1 ⟨rfl,hb⟩;have B1:=Qe<|BW.u.below hb
   have E1:=Qe<|B1.u.setR i2 c2
   exact ee
 case rest=>
 clear BW bP ah;obtain ⟨rfl,BW⟩:=hcut;go_upto_region 6 with fail;go_cut [6] from 11 to 151 (fun x wx=>x=.int .i64 (x3:Nat)/\dm (HM w (.slice (some ⟨gb,of,none⟩) Z cap) i3 c3 0 wx))
 case first=>
  as_aux_lemma=>
   obtain ⟨b0,b1,b2,_⟩:=BW.u.b;go_wp2_with fail;refine Calls.mono (cj.u _ BW.u.l) ?_;rintro e w1 ⟨rfl,hb⟩;have B1:=Qe<|BW.u.below hb
   have E1:=Qe<|B1.u.setR i3 c3
   exact ee
 case rest=>
 clear BW cj;obtain ⟨rfl,BW⟩:=hcut;go_upto_region 7 with fail;go_cut [6] from 11 to 151 (fun x wx=>x=.int .i64 (x3:Nat)/\dm (HM w (.slice (some ⟨gb,of,none⟩) Z cap) i4 c4 0 wx))
 case first=>
  as_aux_lemma=>
   obtain ⟨b0,b1,b2,_⟩:=BW.u.b;go_wp2_with fail;refine Calls.mono (bB.u _) ?_;rintro e w1 ⟨rfl,hb⟩;have B1:=Qe<|BW.u.below hb
   have E1:=Qe<|B1.u.setR i4 c4
   exact ee
 case rest=>
 clear BW bB T;obtain ⟨rfl,BW⟩:=hcut;go_upto_region 8 with fail;go_cut [6] from 11 to 151 (fun x wx=>x=.int .i64 (x5:Nat)/\dm (HM w (.slice (some ⟨gb,of,none⟩) Z cap) i5 c5 0 wx))
 case first=>
  as_aux_lemma=>
   obtain ⟨b0,b1,b2,_⟩:=BW.u.b;go_wp2_with fail;refine Calls.mono (cy.u _ BW.u.l) ?_;rintro e w1 ⟨rfl,hb⟩;have B1:=Qe<|BW.u.below hb
   have E1:=Qe<|B1.u.setR i5 c5
   exact ee
 case rest=>
 clear BW cy;obtain ⟨rfl,BW⟩:=hcut;go_upto_region 9 with fail;go_cut [6] from 11 to 151 (fun x wx=>x=.int .i64 (x5:Nat)/\dm (HM w (.slice (some ⟨gb,of,none⟩) Z cap) i6 c6 0 wx))
 case first=>
  as_aux_lemma=>
   obtain ⟨b0,b1,b2,_⟩:=BW.u.b;go_wp2_with fail;refine Calls.mono (bU.u _) ?_;rintro e w1 ⟨rfl,hb⟩;have B1:=Qe<|BW.u.below hb
   have E1:=Qe<|B1.u.setR i6 c6
   exact ee
 case rest=>
 clear BW bU aj;obtain ⟨rfl,BW⟩:=hcut;go_upto_region 10 with fail;go_cut [6] from 11 to 151 (fun x wx=>x=.int .i64 (g:Nat)/\dm (HM w (.slice (some ⟨gb,of,none⟩) Z cap) i7 c7 0 wx))
 case first=>
  as_aux_lemma=>
   obtain ⟨b0,b1,b2,_⟩:=BW.u.b;go_wp2_with fail;refine Calls.mono (bK.u _ BW.u.l) ?_;rintro e w1 ⟨rfl,hb⟩;have B1:=Qe<|BW.u.below hb
   have E1:=Qe<|B1.u.setR i7 c7
   exact ee
 case rest=>
 clear BW bK;obtain ⟨rfl,BW⟩:=hcut;go_upto_region 11 with fail;go_cut [6] from 11 to 151 (fun x wx=>x=.int .i64 (g:Nat)/\dm (HM w (.slice (some ⟨gb,of,none⟩) Z cap) i7 c7 (g:Nat) wx))
 case first=>
  as_aux_lemma=>
   obtain ⟨f1,f2,f3,f7,a4,n4,k4,a5,n5,k5,a6,n6,k6,⟨m0,m1,m2,m3,_,_,_,_⟩,I,zm⟩:=BW.u.cellI;have bT:=I 0;have E1:=Qe<|BW.u.setF (g:Nat)
   clear I BW;exact gq
 case rest=>
 clear BW;obtain ⟨rfl,BW⟩:=hcut;go_upto_region 12 with fail;go_cut [6] from 11 to 151 (fun x wx=>x=.int .i64 (g:Nat)/\dm (HM w (.slice (some ⟨gb,of,none⟩) Z cap) i8 c8 (g:Nat) wx))
 case first=>
  as_aux_lemma=>
   obtain ⟨b0,b1,b2,_⟩:=BW.u.b;go_wp2_with fail;refine Calls.mono (bZ.u _) ?_;rintro e w1 ⟨rfl,hb⟩;have B1:=Qe<|BW.u.below hb
   have E1:=Qe<|B1.u.setR i8 c8
   exact ee
 case rest=>
 clear BW bZ j;obtain ⟨rfl,BW⟩:=hcut;go_upto_region 13 with fail;go_cut [6] from 11 to 151 (fun x wx=>x=.int .i64 (x9:Nat)/\dm (HM w (.slice (some ⟨gb,of,none⟩) Z cap) i9 c9 (g:Nat) wx))
 case first=>
  as_aux_lemma=>
   obtain ⟨b0,b1,b2,_⟩:=BW.u.b;go_wp2_with fail;refine Calls.mono (cq.u _ BW.u.l) ?_;rintro e w1 ⟨rfl,hb⟩;have B1:=Qe<|BW.u.below hb
   have E1:=Qe<|B1.u.setR i9 c9
   exact ee
 case rest=>
 clear BW cq;obtain ⟨rfl,BW⟩:=hcut;go_upto_region 14 with fail;go_cut [6] from 11 to 151 (fun x wx=>x=.int .i64 (x9:Nat)/\dm (HM w (.slice (some ⟨gb,of,none⟩) Z cap) i9 c9 (g:Nat) wx))
 case first=>
  as_aux_lemma=>
   obtain ⟨f1,f2,f3,f7,a4,n4,k4,a5,n5,k5,a6,n6,k6,⟨m0,m1,m2,m3,_,_,_,_⟩,I,zm⟩:=BW.u.cellI;have bT:=I 1;have E1:=Qe<|BW.u.setI 1 (x9:Nat) dk
   clear I BW;exact gq
 case rest=>
 clear BW;obtain ⟨rfl,BW⟩:=hcut;go_upto_region 15 with fail;go_cut [6] from 11 to 151 (fun x wx=>x=.int .i64 (aS:Nat)/\dm (HM w (.slice (some ⟨gb,of,none⟩) Z cap) P ad (g:Nat) wx))
 case first=>
  as_aux_lemma=>
   obtain ⟨b0,b1,b2,_⟩:=BW.u.b;go_wp2_with fail;refine Calls.mono (bq.u _ BW.u.l) ?_;rintro e w1 ⟨rfl,hb⟩;have B1:=Qe<|BW.u.below hb
   have E1:=Qe<|B1.u.setR P ad
   exact ee
 case rest=>
 clear BW bq;obtain ⟨rfl,BW⟩:=hcut;go_upto_region 16 with fail;go_cut [6] from 11 to 151 (fun x wx=>x=.int .i64 (aS:Nat)/\dm (HM w (.slice (some ⟨gb,of,none⟩) Z cap) P ad (g:Nat) wx))
 case first=>
  as_aux_lemma=>
   obtain ⟨f1,f2,f3,f7,a4,n4,k4,a5,n5,k5,a6,n6,k6,⟨m0,m1,m2,m3,_,_,_,_⟩,I,zm⟩:=BW.u.cellI;have bT:=I 2;have E1:=Qe<|BW.u.setI 2 (aS:Nat) dk
   clear I BW;exact gq
 case rest=>
 clear BW;obtain ⟨rfl,BW⟩:=hcut;go_upto_region 17 with fail;go_cut [6] from 11 to 151 (fun x wx=>x=.int .i64 (aX:Nat)/\dm (HM w (.slice (some ⟨gb,of,none⟩) Z cap) K y (g:Nat) wx))
 case first=>
  as_aux_lemma=>
   obtain ⟨b0,b1,b2,_⟩:=BW.u.b;go_wp2_with fail;refine Calls.mono (bl.u _ BW.u.l) ?_;rintro e w1 ⟨rfl,hb⟩;have B1:=Qe<|BW.u.below hb
   have E1:=Qe<|B1.u.setR K y
   exact ee
 case rest=>
 clear BW bl;obtain ⟨rfl,BW⟩:=hcut;go_upto_region 18 with fail;go_cut [6] from 11 to 151 (fun x wx=>x=.int .i64 (aX:Nat)/\dm (HM w (.slice (some ⟨gb,of,none⟩) Z cap) K y (g:Nat) wx))
 case first=>
  as_aux_lemma=>
   obtain ⟨f1,f2,f3,f7,a4,n4,k4,a5,n5,k5,a6,n6,k6,⟨m0,m1,m2,m3,_,_,_,_⟩,I,zm⟩:=BW.u.cellI;have bT:=I 3;have E1:=Qe<|BW.u.setI 3 (aX:Nat) dk
   clear I BW;exact gq
 case rest=>
 clear BW;obtain ⟨rfl,BW⟩:=hcut;obtain ⟨Qa,cx⟩:=dt (g/4);obtain ⟨Va,bR⟩:=dt (Qa%2);have bD:(g:Int)/4=(Qa:Int):=dk;have bG:(Qa:Int)%2=(Va:Int):=dk;obtain ⟨bV,A⟩:=dt (((Va:Int) == 1));have YY:dm ((Va=1->S=L/\aF=t)/\(¬Va=1->K=L/\y=t)):=by have h:=b'.u;rw [cx,bR] at h;exact h
 clear b' cx bR;obtain ⟨f1,f2,f3,f7,a4,n4,k4,a5,n5,k5,a6,n6,k6,⟨m0,_,_,_,_,_,_,_⟩,I,zm⟩:=BW.u.cellI;clear I;go_upto_if 78 with fail;go_cut [6,7] from 11 to 151 (fun _ _ wx=>dm (HM w (.slice (some ⟨gb,of,none⟩) Z cap) L t (g:Nat) wx))
 case first=>
  as_aux_lemma=>
   cases bV with
   | false=>
    exact lV
   | true=>
    obtain ⟨rfl,rfl⟩:=YY.u.1 jc;obtain ⟨b0,b1,b2,_⟩:=BW.u.b;go_wp2_with fail;refine Calls.mono (bm.u _ BW.u.l) ?_;rintro e w1 ⟨rfl,hb⟩;have B1:=Qe<|BW.u.below hb
    have E1:=Qe<|B1.u.setR ab av
    clear hb b0 b1 b2 m0 zm;obtain ⟨b0,b1,b2,C⟩:=B1.u.b;refine dA ?_;intro ag G ae;clear C BW;go_upto_region 21 with fail;generalize ((((w1).setCell ⟨w.heap.size,0,none⟩ (.slice (some ⟨gb,of,none⟩) Z cap)).setCell ⟨w.heap.size,1,none⟩ (.int .i64 (ab:Nat))).setCell ⟨w.heap.size,2,none⟩ (.int .i64 av))=W1 at*;clear b0 b1 b2 ag G ae B1;have E2:=Qe<|E1.u.below ((Below.refl _ _).alloc (Nat.le_refl _) (.cells #[] 5))
    obtain ⟨b0,b1,b2,_⟩:=E2.u.b;go_upto_region 22 with fail;generalize W1.alloc (.cells #[] 5)=W2 at*;clear E1;go_wp2_with fail;refine Calls.mono (BY.u _ E2.u.l) ?_;rintro e w3 ⟨a,m,c,rfl,hb⟩;have B3:=Qe<|E2.u.below hb
    have o:=Qe<|B3.u.setR S aF
    clear hb b0 b1 b2;obtain ⟨b0,b1,b2,C⟩:=B3.u.b;refine dA ?_;intro ag G ae;clear C E2;go_upto_region 23 with fail;generalize ((((w3).setCell ⟨w.heap.size,0,none⟩ (.slice (some ⟨gb,of,none⟩) Z cap)).setCell ⟨w.heap.size,1,none⟩ (.int .i64 (S:Nat))).setCell ⟨w.heap.size,2,none⟩ (.int .i64 aF))=W3 at*;clear b0 b1 b2 ag G ae B3;obtain ⟨f1,f2,f3,f7,a4,n4,k4,a5,n5,k5,a6,n6,k6,⟨_,_,_,_,m4,_,_,_⟩,I,zm⟩:=o.u.cellI;have cg:=I 4;have E4:=Qe<|o.u.setS 4 a m c dk
    exact lW
 case rest=>
 clear BW YY bm BY A bD bG m0 zm;have BW:=hcut;clear hcut;obtain ⟨Qb,cp⟩:=dt (g/8);obtain ⟨Vb,cn⟩:=dt (Qb%2);have cf:(g:Int)/8=(Qb:Int):=dk;have bL:(Qb:Int)%2=(Vb:Int):=dk;obtain ⟨bV,A⟩:=dt (((Vb:Int) == 1));have YY:dm ((Vb=1->aq=M/\aB=N)/\(¬Vb=1->L=M/\t=N)):=by have h:=ck.u;rw [cp,cn] at h;exact h
 clear ck cp cn;obtain ⟨f1,f2,f3,f7,a4,n4,k4,a5,n5,k5,a6,n6,k6,⟨m0,_,_,_,_,_,_,_⟩,I,zm⟩:=BW.u.cellI;clear I;go_upto_if 97 with fail;go_cut [8] from 11 to 151 (fun _ wx=>dm (HM w (.slice (some ⟨gb,of,none⟩) Z cap) M N (g:Nat) wx))
 case first=>
  as_aux_lemma=>
   cases bV with
   | false=>
    exact lV
   | true=>
    obtain ⟨rfl,rfl⟩:=YY.u.1 jc;have E2:=Qe<|BW.u.below ((Below.refl _ _).alloc (Nat.le_refl _) (.cells #[] 5))
    obtain ⟨b0,b1,b2,_⟩:=E2.u.b;go_upto_region 26 with fail;generalize wc.alloc (.cells #[] 5)=W2 at*;clear BW m0 zm;go_wp2_with fail;refine Calls.mono (bs.u _ E2.u.l) ?_;rintro e w3 ⟨a,m,c,rfl,hb⟩;have B3:=Qe<|E2.u.below hb
    have o:=Qe<|B3.u.setR aq aB
    clear hb b0 b1 b2;obtain ⟨b0,b1,b2,C⟩:=B3.u.b;refine dA ?_;intro ag G ae;clear C E2;go_upto_region 27 with fail;generalize ((((w3).setCell ⟨w.heap.size,0,none⟩ (.slice (some ⟨gb,of,none⟩) Z cap)).setCell ⟨w.heap.size,1,none⟩ (.int .i64 (aq:Nat))).setCell ⟨w.heap.size,2,none⟩ (.int .i64 aB))=W3 at*;clear b0 b1 b2 ag G ae B3;obtain ⟨f1,f2,f3,f7,a4,n4,k4,a5,n5,k5,a6,n6,k6,⟨_,_,_,_,m4,m5,m6,_⟩,I,zm⟩:=o.u.cellI;have cg:=I 5;have E4:=Qe<|o.u.setS 5 a m c dk
    exact lW
 case rest=>
 clear BW YY bs A cf bL m0 zm;have BW:=hcut;clear hcut;obtain ⟨Qc,ct⟩:=dt (g/16);obtain ⟨Vc,bE⟩:=dt (Qc%2);have bY:(g:Int)/16=(Qc:Int):=dk;have bI:(Qc:Int)%2=(Vc:Int):=dk;obtain ⟨bV,A⟩:=dt (((Vc:Int) == 1));have YY:dm ((Vc=1->ak=s/\aM=p)/\(¬Vc=1->M=s/\N=p)):=by have h:=cd.u;rw [ct,bE] at h;exact h
 clear cd ct bE;obtain ⟨f1,f2,f3,f7,a4,n4,k4,a5,n5,k5,a6,n6,k6,⟨m0,_,_,_,_,_,_,_⟩,I,zm⟩:=BW.u.cellI;clear I;go_upto_if 110 with fail;go_cut [9] from 11 to 151 (fun _ wx=>dm (HM w (.slice (some ⟨gb,of,none⟩) Z cap) s p (g:Nat) wx))
 case first=>
  as_aux_lemma=>
   cases bV with
   | false=>
    exact lV
   | true=>
    obtain ⟨rfl,rfl⟩:=YY.u.1 jc;have E2:=Qe<|BW.u.below ((Below.refl _ _).alloc (Nat.le_refl _) (.cells #[] 5))
    obtain ⟨b0,b1,b2,_⟩:=E2.u.b;go_upto_region 30 with fail;generalize wc.alloc (.cells #[] 5)=W2 at*;clear BW m0 zm;go_wp2_with fail;refine Calls.mono (bn.u _ E2.u.l) ?_;rintro e w3 ⟨a,m,c,rfl,hb⟩;have B3:=Qe<|E2.u.below hb
    have o:=Qe<|B3.u.setR ak aM
    clear hb b0 b1 b2;obtain ⟨b0,b1,b2,C⟩:=B3.u.b;refine dA ?_;intro ag G ae;clear C E2;go_upto_region 31 with fail;generalize ((((w3).setCell ⟨w.heap.size,0,none⟩ (.slice (some ⟨gb,of,none⟩) Z cap)).setCell ⟨w.heap.size,1,none⟩ (.int .i64 (ak:Nat))).setCell ⟨w.heap.size,2,none⟩ (.int .i64 aM))=W3 at*;clear b0 b1 b2 ag G ae B3;obtain ⟨f1,f2,f3,f7,a4,n4,k4,a5,n5,k5,a6,n6,k6,⟨_,_,_,_,m4,m5,m6,_⟩,I,zm⟩:=o.u.cellI;have cg:=I 6;have E4:=Qe<|o.u.setS 6 a m c dk
    exact lW
 case rest=>
 clear BW YY bn A bY bI m0 zm;have BW:=hcut;clear hcut;obtain ⟨Qd,bW⟩:=dt (g/2);obtain ⟨Vd,cm⟩:=dt (Qd%2);have bA:(g:Int)/2=(Qd:Int):=dk;have ca:(Qd:Int)%2=(Vd:Int):=dk;obtain ⟨bV,A⟩:=dt (((Vd:Int) == 1));have YY:dm ((Vd=1/\p=0->aP=Q/\aR=O)/\(¬(Vd=1/\p=0)->s=Q/\p=O)):=by have h:=bH.u;rw [bW,cm] at h;exact h
 clear bH bW cm;go_upto_region 32 with fail;obtain ⟨bc,aL⟩:=dt ((bV && (p == 0)));go_cut [128] from 11 to 151 (fun x wx=>x=.bool bc/\dm (HM w (.slice (some ⟨gb,of,none⟩) Z cap) s p (g:Nat) wx))
 case first=>
  as_aux_lemma=>
   obtain ⟨f1,f2,f3,f7,a4,n4,k4,a5,n5,k5,a6,n6,k6,⟨m0,_,_,_,_,_,_,_⟩,I,zm⟩:=BW.u.cellI;obtain ⟨b0,b1,b2,_⟩:=BW.u.b;clear I;cases bV with
   | false=>
    have d:dm (false=bc):=aL;exact sV
   | true=>
    obtain ⟨cc,aJ⟩:=dt ((p == 0));have d:dm (cc=bc):=by rw [<-aJ];exact aL
    exact sV
 case rest=>
 clear BW;obtain ⟨rfl,BW⟩:=hcut;have YZ:dm ((bc=true->p=0/\aP=Q/\aR=O)/\(bc=false->s=Q/\p=O)):=by
  have h:=YY.u;rw [<-aL];refine ⟨fun J=>?_,fun J=>?_⟩
  ·simp at J
   obtain ⟨h2,h3⟩:=J;rw [h2] at A;have h4:Vd=1:=jc;exact ⟨h3,h.1 ⟨h4,h3⟩⟩
  ·refine h.2 (fun h2=>?_)
   have h3:bV=true:=by rw [<-A,h2.1];rfl
   rw [h3,h2.2] at J;cases J
 clear aL A YY bA ca;go_upto_if 128 with fail;go_cut [6,10] from 11 to 151 (fun _ _ wx=>dm (HM w (.slice (some ⟨gb,of,none⟩) Z cap) Q O (g:Nat) wx))
 case first=>
  as_aux_lemma=>
   cases bc with
   | false=>
    obtain ⟨rfl,rfl⟩:=YZ.u.2 rfl;go_wp2_with fail;go_meet;exact BW
   | true=>
    obtain ⟨B,rfl,rfl⟩:=YZ.u.1 rfl;subst B;obtain ⟨b0,b1,b2,_⟩:=BW.u.b;have zb:=BW.u.b.lt;go_upto_region 33 with fail;go_cut [10] from 11 to 151 (fun x wx=>x=.int .i64 (CS:Nat)/\dm (HM w (.slice (some ⟨gb,of,none⟩) Z cap) s 0 (g:Nat) wx))
    case first=>
     have C1:=Qe<|aA.u wc BW.u.l
     have bS:=hcm;unfold maxLen at bS;clear aA aT SU;by_cases bx:cap=F
     ·have ch:U=F:=dk
      have E:IntKind.i64.wrap (CS:Int)=(CS:Int):=iJ;have C2:=Qe<|C1.u.2 ch.symm
      subst bx;subst ch;clear C1;go_wp2_with fail;refine Calls.mono (C2.u _ _) ?_;exact sW
     ·have C2:=Qe C1.u.1
      have aO:¬cap=F:=bx;clear C1 bx;go_wp2_with fail;refine Calls.mono (C2.u _) ?_;exact sW
    case rest=>
     clear BW b0 b1 b2 zb aA;obtain ⟨rfl,BW⟩:=hcut;obtain ⟨b0,b1,b2,_⟩:=BW.u.b;go_wp2_with fail;refine Calls.mono (aT.u _ BW.u.l) ?_;rintro e w1 ⟨rfl,hb⟩;have B1:=Qe<|BW.u.below hb
     have E1:=Qe<|B1.u.setR aQ aN
     clear hb b0 b1 b2;obtain ⟨b0,b1,b2,C⟩:=B1.u.b;refine dA ?_;intro ag G ae;clear C BW;go_upto_region 35 with fail;generalize ((((w1).setCell ⟨w.heap.size,0,none⟩ (.slice (some ⟨gb,of,none⟩) Z cap)).setCell ⟨w.heap.size,1,none⟩ (.int .i64 (aQ:Nat))).setCell ⟨w.heap.size,2,none⟩ (.int .i64 aN))=W1 at*;clear b0 b1 b2 ag G ae B1;obtain ⟨b0,b1,b2,_⟩:=E1.u.b;go_wp2_with fail;refine Calls.mono (SU.u _) ?_;rintro e w2 ⟨rfl,hb⟩;have B2:=Qe<|E1.u.below hb
     have E2:=Qe<|B2.u.setR aP aR
     clear hb b0 b1 b2;obtain ⟨b0,b1,b2,C⟩:=B2.u.b;refine dA ?_;intro ag G ae;clear C E1;go_wp2_with fail;go_meet;exact E2
 case rest=>
 clear BW YZ aT SU aA;have BW:=hcut;clear hcut;obtain ⟨f1,f2,f3,f7,a4,n4,k4,a5,n5,k5,a6,n6,k6,⟨m0,m1,m2,m3,m4,m5,m6,m7⟩,_,zm⟩:=BW.u.cellI;obtain ⟨b0,b1,b2,_⟩:=BW.u.b;obtain ⟨r0,r1,r2,rf⟩:=BW.u.r;refine dY ?_;intro aE aC aD;have aa:=BW.u.m2.c;have af:=BW.u.m2.f;have q0:wc.cell? ⟨w.heap.size+2,0,none⟩=some (.int .i64 0):=aa 0 dn;have q1:wc.cell? ⟨w.heap.size+2,1,none⟩=some (.int .i64 0):=aa 1 dn;have q2:wc.cell? ⟨w.heap.size+2,2,none⟩=some (.int .i64 0):=aa 2 dn;have q3:wc.cell? ⟨w.heap.size+2,3,none⟩=some (.int .i64 0):=aa 3 dn;have q4:wc.cell? ⟨w.heap.size+2,4,none⟩=some (.slice none 0 0):=aa 4 dn;have q5:wc.cell? ⟨w.heap.size+2,5,none⟩=some (.slice none 0 0):=aa 5 dn;have q6:wc.cell? ⟨w.heap.size+2,6,none⟩=some (.slice none 0 0):=aa 6 dn;have q7:wc.cell? ⟨w.heap.size+2,7,none⟩=some (.int .i64 0):=aa 7 dn;have g0:=af 0;have g1:=af 1;have g2:=af 2;have g3:=af 3;have g4:=af 4;have g5:=af 5;have g6:=af 6;have g7:=af 7;clear rf aa af;go_upto_region 36 with fail;have EA:=BW.u.r.set (.slice (some ⟨gb,of,none⟩) Z cap) (Q:Nat) O;have MG:=Qj (Qj (Qj (Qj (Qj (Qj (Qj (Qf (((wc.setCell ⟨w.heap.size+1,0,none⟩ (.slice (some ⟨gb,of,none⟩) Z cap)).setCell ⟨w.heap.size+1,1,none⟩ (.int .i64 (Q:Nat))).setCell ⟨w.heap.size+1,2,none⟩ (.int .i64 O)) ⟨w.heap.size+2,0,none⟩ (.int .i64 (g:Nat))) (Qf _ ⟨w.heap.size+2,1,none⟩ (.int .i64 f1))) (Qf _ ⟨w.heap.size+2,2,none⟩ (.int .i64 f2))) (Qf _ ⟨w.heap.size+2,3,none⟩ (.int .i64 f3))) (Qf _ ⟨w.heap.size+2,4,none⟩ (.slice a4 n4 k4))) (Qf _ ⟨w.heap.size+2,5,none⟩ (.slice a5 n5 k5))) (Qf _ ⟨w.heap.size+2,6,none⟩ (.slice a6 n6 k6))) (Qf _ ⟨w.heap.size+2,7,none⟩ (.int .i64 f7));have LA:=BW.u.l.grown EA.2 BW.u.l.size dz;have LB:=LA.grown MG LA.size dz;have z:=Qe LB.drew;clear EA MG LA LB;go_region
 go_wp2_with fail;exact bodyPost_ret (v:=.tuple #[.agg #[.slice (some ⟨gb,of,none⟩) Z cap,.int .i64 (Q:Nat),.int .i64 O],.agg #[.int .i64 (g:Nat),.int .i64 f1,.int .i64 f2,.int .i64 f3,.slice a4 n4 k4,.slice a5 n5 k5,.slice a6 n6 k6,.int .i64 f7]]) (by simp [results,results47,go_sem,r0,r1,r2,q0,q1,q2,q3,q4,q5,q6,q7]) rfl ⟨_,_,_,_,_,_,_,_,_,_,_,_,_,_,rfl,z.u⟩
end
end Go.Proofs.YtgginbpmebgkcaaGreatDoor
