import Derived.Test.YtgginbpmebgkcaaGreatDoorProg
import Derived.WalkKit
import Derived.WalkSpells
import Derived.WalkLawsBesides
import Derived.Deep.QuietTactic
import Derived.BigQuiet
import Derived.Laws.Pointers
import Derived.Deep.RegionHeld3
import Derived.Deep.DrawnRows
import Derived.Laws.BitsAllLaws
import Derived.Test.YtgginbpmebgkcaaGreatDoorMAC
namespace Go.Proofs.YtgginbpmebgkcaaGreatDoor
open Go.RowKit Go.Proofs.Tryz
attribute [local go_sem ↓] Go.wp_at_zero Go.wp_at_succ
set_option maxRecDepth 100000
set_option maxHeartbeats 25600000
section
theorem mC{P:Prop}(h:P:=by go_enter func155,ntmps155;go_wp2;go_quiet (fail);go_wp2;go_ret;exact ⟨QaF HB.u,_,rfl⟩):P:=h
variable{a u n:Int}{w:World}{p len:Nat}{v:Value}
theorem Tryz.info_u8s:(prog.info? 5).map (fun i=>(i.zero,i.size,i.bytes))=some (some (.int .u8 0),1,1):=by kernel_rfl
theorem Qc4(ao:Option Addr)(cap:Nat)(zs:List Int)(w:World)(hr:Q1 w ao zs)(hnil:ao=none->cap=0)(hn:zs.length<=140737488355328):
  Calls prog 175 #[.slice ao zs.length cap] w fun e w'=>∃ao' cap',e=.returned (.slice ao' zs.length cap')/\Qi 5 w.heap.size w' ao' cap' zs/\Below w.heap.size w w':=by
 refine dP ?_;intro i0 hi af ak aq;have a:ao=none->zs.length=0/\cap=0:=by
  intro e;refine ⟨?_,hnil e⟩;rcases Nat.eq_zero_or_pos zs.length with h|h
  ·exact h
  ·obtain ⟨b,U,e',_⟩:=hr 0 h
   rw [e] at e';cases e'
 go_enter func175,ntmps175;go_wp2_with (at_builtin;refine Qm _ rfl _ _ 22 rfl w.heap.size 5 i0 (.int .u8 0) 1 underlying22 hi af ak aq rfl (.slice none 0 0) 0 [] rfl (World.ownsRow_nil _ _ _ _) ao cap zs rfl hr a dy dk (Nat.le_refl _) ?_)
 intro v' w1 R Q aa;have hb:Below w.heap.size w w1:=QbM Q;obtain ⟨ao',cap',e,hm⟩:=Qi.of R;rw [e];clear R Q aa hr a e;go_wp2_with fail;go_ret;exact ⟨ao',cap',rfl,hm,hb⟩
theorem Qgp(ao:Option Addr)(cap:Nat)(zs:List Int)(w:World)(hr:Q1 w ao zs)(hnil:ao=none->cap=0)(hn:zs.length<=140737488355328):
  Calls prog 175 #[.slice ao zs.length cap] w fun e w'=>∃ao' cap',e=.returned (.slice ao' zs.length cap')/\Qah w.heap.size w' ao' cap' zs/\Below w.heap.size w w':=
 (Qc4 ao cap zs w hr hnil hn).mono fun _ _ ⟨x,y,h1,h2,h3⟩=>⟨x,y,h1,h2.mine,h3⟩
def Src(w:World)(p:Nat)(v:Value)(a u:Int):Prop:=
 w.cell? ⟨p,0,none⟩=some v/\w.cell? ⟨p,1,none⟩=some (.int .i64 a)/\w.cell? ⟨p,2,none⟩=some (.int .i64 u)/\
  w.frozen? ⟨p,0,none⟩=false/\w.frozen? ⟨p,1,none⟩=false/\w.frozen? ⟨p,2,none⟩=false
theorem Qlx(w:World)(v:Value)(a u:Int)(t:TypeId):Src (w.alloc (.cells #[v,.int .i64 a,.int .i64 u] t)) w.heap.size v a u:=by
 simp [Src,go_sem]
theorem Qe7(ao:Option Addr)(cap:Nat)(zs:List Int)(a u:Int)(w:World)(hr:Q1 w ao zs)(hnil:ao=none->cap=0)(hn:zs.length<=140737488355328):
  Calls prog 146 #[.agg #[.slice ao zs.length cap,.int .i64 a,.int .i64 u]] w fun e w'=>∃p ao' cap',e=.returned (.pointer (some ⟨p,0,none⟩))/\Src w' p (.slice ao' zs.length cap') a u/\Qi 5 w.heap.size w' ao' cap' zs/\w.heap.size<p/\p<w'.heap.size/\Qt ao'≠some p/\Below w.heap.size w w':=by
 go_enter func146,ntmps146;go_wp2;go_region_held3 (fun w'=>w'.cell? ⟨w.heap.size,0,none⟩=some (.slice ao zs.length cap)/\w'.cell? ⟨w.heap.size,1,none⟩=some (.int .i64 a)/\w'.cell? ⟨w.heap.size,2,none⟩=some (.int .i64 u))
  (first|go_keep|(simp [*]))
  (first|(go_at_call 175;refine (Qc4 ao cap zs _ (hr.below ?_) hnil hn).mono ?_;(exact ((Below.refl _ _).alloc (Nat.le_refl _) _).drew);rintro e w1 ⟨ao',cap',rfl,hm,hb⟩;obtain ⟨I,Q⟩:=QrG hb))
 go_wp2_with fail;go_ret;have r:w.heap.size+1<=w1.heap.size:=by have:=hb.size;simp at this;omega
 have K:Below w.heap.size w w1:=(((Below.refl w.heap.size w).alloc (Nat.le_refl _) _).drew).trans (hb.mono dr);refine ⟨w1.heap.size,ao',cap',dr,Qlx _ _ _ _ _,(hm.mono dr).below ((Below.refl _ _).alloc (Nat.le_refl _) _),dk,dr,?_,K.alloc dk _⟩;intro e;cases ao' with
 | none=>cases e
 | some ad=>
  have:=(hm.mine.lies ad rfl).2.1;exact fd
theorem Src.drewN(h:Src w p v a u)(k:Nat):Src (w.drewN k) p v a u:=h
theorem Src.grown{w':World}{row:Option Nat}(h:Src w p v a u)(hg:w.grownBy w' row)(hne:some p≠row):Src w' p v a u:=by
 obtain ⟨J,h2,h3,h4,U,h6⟩:=h;have N:p<w.heap.size:=World.block_lt_of_cell? w _ J;have e:=hg.block p N hne;refine ⟨(World.cell?_of_block (w:=w) e).trans J,(World.cell?_of_block (w:=w) e).trans h2,(World.cell?_of_block (w:=w) e).trans h3,?_,?_,?_⟩
 ·exact (World.frozen?_of_block (w:=w) e).trans h4
 ·exact (World.frozen?_of_block (w:=w) e).trans U
 ·exact (World.frozen?_of_block (w:=w) e).trans h6
def Qc5(len:Nat)(a u n:Int):Bool:=decide (n<=8*(len:Int)-a/\n<=34359738368-u)
theorem Qlj(h:¬n<=8*(len:Int)-a):false=Qc5 len a u n:=(decide_eq_false dk).symm
theorem Qiq(h:n<=8*(len:Int)-a):decide (n<=34359738368-u)=Qc5 len a u n:=by
 unfold Qc5;rw [Bool.eq_iff_iff];simp;omega
theorem QcL(p:Nat)(ao:Option Addr)(len cap:Nat)(a u n:Int)(w:World)(hs:Src w p (.slice ao len cap) a u)(hl:len<=1000000)(a0:0<=a)(a7:a<=7)(u0:0<=u)(u1:u<=34359738368)(n0:0<=n)(n1:n<=8000000):
  Calls prog 155 #[.pointer (some ⟨p,0,none⟩),.int .i64 n] w fun e w'=>e=.returned (.bool (Qc5 len a u n))/\∃q,w'=w.drewN q:=by
 obtain ⟨C,c1,c2,_,_,_⟩:=hs;by_cases h:n<=8*(len:Int)-a
 ·have HB:dm (decide (n<=34359738368-u)=Qc5 len a u n):=Qiq h
  exact mC
 ·have HB:dm (false=Qc5 len a u n):=Qlj h
  have hd:decide (n<=8*(len:Int)-a)=false:=decide_eq_false h;exact mC
def Qa2(ao:Option Addr)(cap k:Nat):Option Addr:=if cap=k then ao else ao.map (·.add k)
theorem Q1.cut{ao:Option Addr}{zs:List Int}(h:Q1 w ao zs){cap k:Nat}(hc:zs.length<=cap):Q1 w (Qa2 ao cap k) (zs.drop k):=by
 intro i hi;rw [List.length_drop] at hi;obtain ⟨b,U,rfl,z⟩:=h (k+i) dk;unfold Qa2;rw [if_neg dk];refine ⟨b,U+k,jk,?_⟩;rw [Nat.add_assoc,z];simp [List.getD]
theorem QkK(h:Src w p v a u)(v':Value)(a' u':Int):
  Src (((w.setCell ⟨p,0,none⟩ v').setCell ⟨p,1,none⟩ (.int .i64 a')).setCell ⟨p,2,none⟩ (.int .i64 u')) p v' a' u'/\
   w.grownBy (((w.setCell ⟨p,0,none⟩ v').setCell ⟨p,1,none⟩ (.int .i64 a')).setCell ⟨p,2,none⟩ (.int .i64 u')) (some p)/\
   (((w.setCell ⟨p,0,none⟩ v').setCell ⟨p,1,none⟩ (.int .i64 a')).setCell ⟨p,2,none⟩ (.int .i64 u')).heap.size=w.heap.size:=by
 obtain ⟨C,c1,c2,f0,f1,f2⟩:=h;refine ⟨⟨?_,?_,?_,?_,?_,?_⟩,?_,dr⟩
 ·exact mD
 ·rw [World.cell?_setCell_other _ _ _ _ dr,World.cell?_setCell_same _ _ _ (u:=.int .i64 a) mE]
 ·rw [World.cell?_setCell_same _ _ _ (u:=.int .i64 u) mF]
 ·exact fE
 ·exact fF
 ·exact fG
 ·exact mG
theorem Qcv(p:Nat)(ao:Option Addr)(len cap:Nat)(a u n:Int)(w:World)(hs:Src w p (.slice ao len cap) a u)(hl:len<=1000000)(a0:0<=a)(a7:a<=7)(u0:0<=u)(u1:u<=34359738368)(n0:0<=n)(n1:a+n<=8*(len:Int)):
  Calls prog 156 #[.pointer (some ⟨p,0,none⟩),.int .i64 n] w fun e w'=>e=.returned (.tuple #[])/\
   Src w' p (.slice (Qa2 ao cap ((a+n)/8).toNat) (len-((a+n)/8).toNat) (cap-((a+n)/8).toNat)) ((a+n)%8) (u+n)/\w.grownBy w' (some p)/\w'.heap.size=w.heap.size:=by
 obtain ⟨C,c1,c2,f0,f1,f2⟩:=hs;obtain ⟨k,hk⟩:∃k:Nat,(a+n)/8=(k:Int):=⟨((a+n)/8).toNat,dk⟩;go_enter func156,ntmps156;go_wp2
 ·go_end0
  refine ⟨rfl,?_⟩;have I:Qa2 ao k k=ao:=if_pos rfl;rw [I];exact QkK ⟨C,c1,c2,f0,f1,f2⟩ _ _ _
 ·go_end0
  refine ⟨rfl,?_⟩;have I:Qa2 ao cap k=ao.map (·.add k):=if_neg dC;rw [I];exact QkK ⟨C,c1,c2,f0,f1,f2⟩ _ _ _
end
def QfB(a:Int):Int:=(8-a)%8
def Qkq(a:Int):Nat:=if a=0 then 0 else 1
theorem Qg4{w:World}{p:Nat}{v:Value}{a u:Int}(h:Src w p v a u)(o:Obj):Src (w.alloc o) p v a u:=
 h.grown (World.grownBy_alloc w o none) dr
theorem Qmz(p:Nat)(ao:Option Addr)(len cap:Nat)(a u:Int)(w:World)(hs:Src w p (.slice ao len cap) a u)(hv:vld len a u=true):
  Calls prog 110 #[.agg #[.pointer (some ⟨p,0,none⟩)]] w fun e w'=>e=.returned (.tuple #[])/\
   Src w' p (.slice (Qa2 ao cap (Qkq a)) (len-Qkq a) (cap-Qkq a)) 0 (u+QfB a)/\w.grownBy w' (some p):=by
 obtain ⟨m,a7,al,hl,u0,Y,d⟩:=Qdt hv;refine fH ?_;intro N;have an:w.heap.size≠p:=dk;have c:=hs;obtain ⟨C,c1,c2,f0,f1,f2⟩:=c;by_cases r:a=0
 ·subst r
  have HB:dm (Qc5 len 0 u 0=true):=decide_eq_true dk;have o:dm (u+QfB 0=u+0):=rfl;have HC:dm (Qkq 0=0):=rfl;clear hv al d m a7;have j:=Qg4 hs (Obj.cells #[Value.pointer (some ⟨p,0,none⟩)] 63);go_enter func110,ntmps110;go_wp2_with fail;refine (QcL p ao len cap 0 u 0 _ j hl dk dk u0 Y dk dk).mono ?_;rintro e w' ⟨rfl,q,rfl⟩;rw [HB.u];go_wp2_with fail;refine (Qcv p ao len cap 0 u 0 _ (j.drewN q) hl dk dk u0 Y dk dk).mono ?_;rintro e w' ⟨rfl,J,h2,h3⟩;exact oE
 ·have y:(8-a)%8=8-a:=dk
  have b:-a%8=8-a:=dk;have aL:0<len:=dk;have HB:dm (Qc5 len a u (8-a)=true):=decide_eq_true dk;have o:dm (u+QfB a=u+(8-a)):=by show u+QfB a=u+(8-a);unfold QfB;rw [y]
  have HC:dm (Qkq a=1):=if_neg r;have j:=Qg4 hs (Obj.cells #[Value.pointer (some ⟨p,0,none⟩)] 63);clear hv al d;go_enter func110,ntmps110;go_wp2_with fail;refine (QcL p ao len cap a u (8-a) _ j hl dk dk u0 Y dk dk).mono ?_;rintro e w' ⟨rfl,q,rfl⟩;rw [HB.u];go_wp2_with fail;refine (Qcv p ao len cap a u (8-a) _ (j.drewN q) hl dk dk u0 Y dk dk).mono ?_;rintro e w' ⟨rfl,J,h2,h3⟩;rw [show (a+(8-a))/8=1 by omega,show (a+(8-a))%8=0 by omega] at J;exact oE
theorem Qn7(p:Nat)(ao:Option Addr)(len cap:Nat)(a u n:Int)(w:World)(hs:Src w p (.slice ao len cap) a u)(hv:vld len a u=true)(hno:a≠0\/(a=0/\n<0)\/(a=0/\0<=n/\(len:Int)<n)\/(a=0/\0<=n/\n<=len/\Qc5 len 0 u (8*n)=false)):
  Calls prog 197 #[.agg #[.pointer (some ⟨p,0,none⟩)],.int .i64 n] w fun e w'=>e=.returned (.tuple #[.slice none 0 0,.bool false])/\Below w.heap.size w w':=by
 obtain ⟨m,a7,al,hl,u0,Y,d⟩:=Qdt hv;clear al d hv;refine fH ?_;intro N;have c:=hs;obtain ⟨C,c1,c2,f0,f1,f2⟩:=c;rcases hno with h|⟨rfl,h⟩|⟨rfl,H,h⟩|⟨rfl,H,J,h2⟩
 ·have hb:(a != 0)=true:=eI
  clear hs h;exact jU
 ·clear hs
  exact jU
 ·have y:¬n<0:=dk
  clear hs;exact jU
 ·have HB:dm (Qc5 len 0 u (8*n)=false):=h2
  clear h2;have j:=hs.grown (World.grownBy_alloc w (Obj.cells #[Value.pointer (some ⟨p,0,none⟩)] 281) none) dr;go_enter func197,ntmps197;go_wp2_with fail;refine (QcL p ao len cap 0 u (8*n) _ j hl m a7 u0 Y dk dk).mono ?_;exact mI
theorem QlN(p:Nat)(ao:Option Addr)(cap:Nat)(zs:List Int)(u:Int)(n:Nat)(w:World)(hs:Src w p (.slice ao zs.length cap) 0 u)(hr:Q1 w ao zs)(hnil:ao=none->cap=0)(hfit:zs.length<=cap)(hv:vld zs.length 0 u=true)(hnl:n<=zs.length)(hh:Qc5 zs.length 0 u (8*n)=true):
  Calls prog 197 #[.agg #[.pointer (some ⟨p,0,none⟩)],.int .i64 n] w fun e w'=>∃bo bc,e=.returned (.tuple #[.slice bo n bc,.bool true])/\Qah w.heap.size w' bo bc (zs.take n)/\
   Src w' p (.slice (Qa2 ao cap n) (zs.length-n) (cap-n)) 0 (u+8*n)/\w.grownBy w' (some p):=by
 obtain ⟨m,a7,al,hl,u0,Y,d⟩:=Qdt hv;have HB:dm (Qc5 zs.length 0 u (8*n)=true):=hh;clear al d hv hh;refine fH ?_;intro N;have T:=World.grownBy_alloc w (Obj.cells #[Value.pointer (some ⟨p,0,none⟩)] 281) none;have j:=hs.grown T dr;have Q:=hr.grown T dr;have aA:Q1 (w.alloc (Obj.cells #[Value.pointer (some ⟨p,0,none⟩)] 281)) ao (zs.take n):=by
  intro i hi;rw [List.length_take] at hi;obtain ⟨b,U,e,I⟩:=Q i dk;refine ⟨b,U,e,?_⟩;rw [I];simp [List.getD,show i<n by omega]
 have ab:(zs.take n).length=n:=dS;have x:(w.alloc (.cells #[.pointer (some ⟨p,0,none⟩)] 281)).cell? ⟨w.heap.size,0,none⟩=some (.pointer (some ⟨p,0,none⟩)):=dF;obtain ⟨C,c1,c2,f0,f1,f2⟩:=hs;generalize zs.take n=zt at*;go_enter func197,ntmps197;go_wp2_with fail;refine (QcL p ao zs.length cap 0 u (8*n) _ j hl m a7 u0 Y dk dk).mono ?_;rintro e w' ⟨rfl,q,rfl⟩;rw [HB.u];go_wp2_with fail;have az:=Qgp ao cap zt ((w.alloc (.cells #[.pointer (some ⟨p,0,none⟩)] 281)).drewN q) (aA.drewN q) hnil dk;rw [ab] at az;refine az.mono ?_;rintro e w3 ⟨bo,bc,rfl,K,r⟩;refine mJ ?_;intro Z c aw;have o:Qt bo≠some p:=K.far (by show p<(w.alloc _).heap.size;simp;omega);have a:=K.mono (B':=w.heap.size) (by show w.heap.size<=(w.alloc _).heap.size;simp);clear Q j x r hr T az aA K C c1 c2 f0 f1 f2 ab;go_wp2_with fail;refine (Qcv p ao zs.length cap 0 u (8*n) _ Z hl m a7 u0 Y dk dk).mono ?_;rintro e w4 ⟨rfl,J,h2,h3⟩;rw [show (0+8*(n:Int))/8=(n:Int) by omega,show (0+8*(n:Int))%8=0 by omega,Int.toNat_natCast] at J;have M:=a.grown h2 (by intro k e;simp at e;subst e;exact o);go_wp2_with fail;go_ret2;exact ⟨bo,bc,rfl,M,J,Qj aw h2⟩
theorem QnY{w:World}{p:Nat}{v:Value}{a u:Int}(h:Src w p v a u)(v':Value):
  Src (w.setCell ⟨p,0,none⟩ v') p v' a u/\w.grownBy (w.setCell ⟨p,0,none⟩ v') (some p)/\(w.setCell ⟨p,0,none⟩ v').heap.size=w.heap.size:=by
 obtain ⟨C,c1,c2,f0,f1,f2⟩:=h;refine ⟨⟨?_,?_,?_,?_,?_,?_⟩,Qf w ⟨p,0,none⟩ _,dr⟩
 ·exact World.cell?_setCell_same _ _ _ C
 ·rw [World.cell?_setCell_other _ _ _ _ dr];exact c1
 ·rw [World.cell?_setCell_other _ _ _ _ dr];exact c2
 ·exact fE
 ·exact fF
 ·exact fG
section
variable{w b w':World}{p cc:Nat}{v:Value}{a u:Int}{r row:Option Nat}{ao co:Option Addr}{zs cs:List Int}
theorem Qfw(n:Int):bits .and .i64 n 255=n%256:=by
 have J:(BitVec.ofInt 64 255).toNat=2^8-1:=dn;have d:(BitVec.ofInt 64 n&&&BitVec.ofInt 64 255).toNat=(n%((2^64:Nat):Int)).toNat%2^8:=by
  rw [BitVec.toNat_and,BitVec.toNat_ofInt,J,Nat.and_two_pow_sub_one_eq_mod]
 show IntKind.i64.wrap ((BitVec.ofInt 64 n&&&BitVec.ofInt 64 255).toNat:Nat)=n%256;rw [d,IntKind.wrap_i64];omega
theorem Qni(h:Src w p v a u)(a':Int):
  Src (w.setCell ⟨p,1,none⟩ (.int .i64 a')) p v a' u/\w.grownBy (w.setCell ⟨p,1,none⟩ (.int .i64 a')) (some p):=by
 obtain ⟨C,c1,c2,f0,f1,f2⟩:=h;refine ⟨⟨?_,?_,?_,?_,?_,?_⟩,Qf w ⟨p,1,none⟩ _⟩
 ·rw [World.cell?_setCell_other _ _ _ _ dr];exact C
 ·exact World.cell?_setCell_same _ _ _ c1
 ·rw [World.cell?_setCell_other _ _ _ _ dr];exact c2
 ·exact fE
 ·exact fF
 ·exact fG
theorem Qnf(h:Src w p v a u)(u':Int):
  Src (w.setCell ⟨p,2,none⟩ (.int .i64 u')) p v a u'/\w.grownBy (w.setCell ⟨p,2,none⟩ (.int .i64 u')) (some p):=by
 obtain ⟨C,c1,c2,f0,f1,f2⟩:=h;refine ⟨⟨?_,?_,?_,?_,?_,?_⟩,Qf w ⟨p,2,none⟩ _⟩
 ·rw [World.cell?_setCell_other _ _ _ _ dr];exact C
 ·rw [World.cell?_setCell_other _ _ _ _ dr];exact c1
 ·exact World.cell?_setCell_same _ _ _ c2
 ·exact fE
 ·exact fF
 ·exact fG
theorem Qds{a b':World}(h:a.grownBy b r)(e1:b'.os=b.os)(e2:b'.tape=b.tape)(e3:b'.output=b.output)(e4:b'.heap=b.heap):a.grownBy b' r:=
 ⟨e1.trans h.os,e2.trans h.tape,e3.trans h.output,by rw [e4];exact h.size,fun k hk hne=>by rw [e4];exact h.block k hk hne⟩
theorem Q1.grown0(h:Q1 w ao zs)(hg:w.grownBy w' row)(hne:∀ad,ao=some ad->0<zs.length->some ad.block≠row):Q1 w' ao zs:=by
 intro i hi;obtain ⟨b,U,rfl,I⟩:=h i hi;exact ⟨b,U,rfl,hg.cell I (hne ⟨b,U,none⟩ rfl dk)⟩
theorem Q1.lives(h:Q1 w ao zs):∀ad,ao=some ad->0<zs.length->ad.block<w.heap.size:=by
 intro ad e H;obtain ⟨b,U,rfl,I⟩:=h 0 H;simp only [Option.some.injEq] at e;subst e;exact World.block_lt_of_cell? w _ I
def Cur(w:World)(p:Nat)(co:Option Addr)(cc:Nat)(cs:List Int):Prop:=
 ∃i:Nat,∃h:Int,i<=cs.length/\Src w p (.slice co cs.length cc) i h/\Q1 w co cs/\Qh cs/\(∀ad,co=some ad->0<cs.length->ad.block≠p)/\cs.length<=1048576
theorem Cur.grown(h:Cur w p co cc cs)(hg:w.grownBy w' row)(hp:some p≠row)(hc:∀ad,co=some ad->0<cs.length->some ad.block≠row):Cur w' p co cc cs:=by
 obtain ⟨i,x,J,h2,h3,h4,U,h6⟩:=h;exact ⟨i,x,J,h2.grown hg hp,h3.grown0 hg hc,h4,U,h6⟩
theorem Cur.lt(h:Cur w p co cc cs):p<w.heap.size:=by
 obtain ⟨i,x,J,h2,_⟩:=h;exact World.block_lt_of_cell? w _ h2.1
theorem Qbs(p:Nat)(co:Option Addr)(cc:Nat)(cs:List Int)(w:World)(hc:Cur w p co cc cs):
  Calls prog 51 #[.pointer (some ⟨p,0,none⟩)] w fun e w'=>(∃x:Int,e=.returned (.int .i64 x)/\0<=x/\x<=255)/\Cur w' p co cc cs/\w.grownBy w' (some p):=by
 obtain ⟨i,h,hi,E,y,ho,an,hl⟩:=hc;have c:=E;obtain ⟨C,c1,c2,f0,f1,f2⟩:=c;obtain ⟨k1,k2⟩:=Qnf E (wrap64 (wrap64 (h*6364136223846793005)+1442695040888963407));have aq:=y.grown0 k2 (fun ad e h0 he=>an ad e h0 (by simpa using he));have Q:∀q,Q1 ((w.setCell ⟨p,2,none⟩ (.int .i64 (wrap64 (wrap64 (h*6364136223846793005)+1442695040888963407)))).drewN q) co cs:=fun q=>aq
 by_cases ab:i<cs.length
 ·have aU:(0:Int)<=(i:Int):=dk
  have aG:(i:Int)<(cs.length:Int):=dk;obtain ⟨b,U,rfl,z⟩:=y.at ab;have a2:=z i ab;have o:b≠p:=an ⟨b,U,none⟩ rfl dk;obtain ⟨m1,m2⟩:=Qni k1 ((i:Int)+1);have d:=aq.grown0 m2 (fun ad e h0 he=>an ad e h0 (by simpa using he));have aM:=ho.getD i;clear E z Q aq y;generalize cs.getD i 0=x at*;go_enter func51,ntmps51;go_wp2_with fail;go_quiet (fail);go_wp2_with fail;go_quiet (fail);go_wp2_with fail;go_quiet (fail);go_wp2_with fail;go_ret;refine ⟨⟨_,rfl,?_⟩,?_,?_⟩
  ·exact qj
  ·exact ⟨i+1,_,dk,by rw [Int.natCast_add];exact m1,d,ho,an,hl⟩
  ·exact Qds (Qj k2 m2) rfl rfl rfl rfl
 ·clear E y
  go_enter func51,ntmps51;go_wp2_with fail;go_quiet (fail);go_wp2_with fail;go_quiet (fail);go_wp2_with fail;go_ret;refine ⟨⟨_,rfl,?_⟩,?_,?_⟩
  ·exact qj
  ·exact ⟨i,_,dk,k1,Q 0,ho,an,hl⟩
  ·exact Qds k2 rfl rfl rfl rfl
theorem QaT(p:Nat)(co:Option Addr)(cc:Nat)(cs:List Int)(n:Int)(w:World)(hc:Cur w p co cc cs)(n0:1<=n)(n1:n<=1000000):
  Calls prog 19 #[.pointer (some ⟨p,0,none⟩),.int .i64 n] w fun e w'=>(∃x:Int,e=.returned (.int .i64 x)/\0<=x/\x<n)/\Cur w' p co cc cs/\w.grownBy w' (some p):=by
 by_cases h:n<=256
 ·go_enter func19,ntmps19
  go_wp2_with fail;refine (Qbs p co cc cs w hc).mono ?_;rintro e w1 ⟨⟨x,rfl,V,u⟩,m,I⟩;go_wp2_with fail;go_ret;exact ⟨⟨_,rfl,Int.emod_nonneg _ dk,Int.emod_lt_of_pos _ dk⟩,m,I⟩
 ·go_enter func19,ntmps19
  go_wp2_with fail;refine (Qbs p co cc cs w hc).mono ?_;rintro e w1 ⟨⟨x,rfl,V,u⟩,m,I⟩;go_wp2_with fail;refine (Qbs p co cc cs w1 m).mono ?_;rintro e w2 ⟨⟨y,rfl,y0,F⟩,al,ag⟩;go_wp2_with fail;refine (Qbs p co cc cs w2 al).mono ?_;rintro e w3 ⟨⟨z,rfl,t,z1⟩,ax,aw⟩;go_wp2_with fail;go_ret;exact ⟨⟨_,rfl,Int.emod_nonneg _ dk,Int.emod_lt_of_pos _ dk⟩,ax,Qj (Qj I ag) aw⟩
theorem own1(W:World)(base e g:Nat)(hb:base<=W.heap.size)(hg:W.heap.size=g):(W.alloc (.cells #[] e)).ownsRow base e 1 (.slice (some ⟨g,0,none⟩) 0 0) 0 []:=kC
theorem QbX(w:World)(x:Int)(t:TypeId):Q1 (w.alloc (.cells #[.int .u8 x] t)) (some ⟨w.heap.size,0,none⟩) [x]:=qk
theorem QY{a c:World}(h:a.grownBy b (some p))(k:b.grownBy c r)(hr:∀g,r=some g->a.heap.size<=g\/g=p):a.grownBy c (some p):=by
 refine ⟨k.os.trans h.os,k.tape.trans h.tape,k.output.trans h.output,Nat.le_trans h.size k.size,fun j hj hne=>?_⟩;rw [k.block j (Nat.lt_of_lt_of_le hj h.size) ?_,h.block j hj hne];intro e;rcases hr j e.symm with J|J
 ·omega
 ·exact hne (by rw [J])
theorem QjI(p:Nat)(co:Option Addr)(cc:Nat)(cs:List Int)(n:Nat)(w:World)(hc:Cur w p co cc cs)(hn:n<=1000)(hco:∀ad,co=some ad->0<cs.length->ad.block<w.heap.size):
  Calls prog 50 #[.pointer (some ⟨p,0,none⟩),.int .i64 n] w fun e w'=>(∃ao cap zs,e=.returned (.slice ao zs.length cap)/\Qi 5 w.heap.size w' ao cap zs/\Qh zs/\zs.length=n)/\Cur w' p co cc cs/\w.grownBy w' (some p):=by
 refine dP ?_;intro i0 hi af ak aq;refine kJ ?_;intro N s;clear hco;have B:=hc.grown (World.grownBy_alloc w (.cells #[] 5) none) dr dr;have az:Qi 5 w.heap.size (w.alloc (.cells #[] 5)) (some ⟨w.heap.size,0,none⟩) 0 []:=own1 w _ _ _ (Nat.le_refl _) rfl;have H:w.grownBy (w.alloc (.cells #[] 5)) (some p):=World.grownBy_alloc w _ _;go_enter func50,ntmps50;go_wp2_with fail;go_loopw [5,6] (fun v i wr=>∃k:Nat,k<=n/\i=.int .i64 k/\∃ao cap zs,v=.slice ao zs.length cap/\dm (zs.length=k)/\Qh zs/\Qi 5 w.heap.size wr ao cap zs/\Cur wr p co cc cs/\w.grownBy wr (some p)) (fun _ i _=>n-(intOf i).toNat)
 case atStart=>exact ⟨0,Nat.zero_le _,rfl,_,0,[],rfl,rfl,(fun z r=>by cases r),az,B,H⟩
 case round=>
  clear hc B az H;obtain ⟨k,hk,rfl,ao,cap,zs,rfl,HL,ah,ho,hc,O⟩:=hrel;by_cases ab:k<n
  ·go_wp2_with fail
   refine (Qbs p co cc cs wr hc).mono ?_;rintro e w1 ⟨⟨x,rfl,V,u⟩,m,I⟩;have f:Qt ao≠some p:=ho.mine.far N;have a0:=ho.grown I ft;have c:=QY O I ql;refine qm ?_;intro T S al aF;have hx:x%256=x:=dk;have D:zs.length<=1000:=iG;have L:=QbX w1 x 5;clear ho hc a0 m I O c T;go_wp2_with (at_builtin;refine Qm _ rfl _ _ 22 rfl w.heap.size 5 i0 (.int .u8 0) 1 underlying22 hi af ak aq rfl (.slice ao zs.length cap) zs.length (zs.map (Value.int .u8)) rfl S (some ⟨w1.heap.size,0,none⟩) 1 [x] rfl L (fun e=>dx) dK du (by have:=aF.size;omega) ?_)
   intro v' w2 R Q aa;rw [show zs.map (Value.int .u8)++[Value.int .u8 x]=(zs++[x]).map (Value.int .u8) from dr] at R;obtain ⟨l,K,e',av⟩:=Qi.of R;subst e'
   have P:(Value.slice ao zs.length cap).ownBlock=Qt ao:=g8;rw [P] at Q;have d:∀g,Qt ao=some g->w.heap.size<=g:=by
    intro g e;rcases Nat.lt_or_ge g w.heap.size with h|h
    ·exact absurd e (S.mine.far h)
    ·exact h
   have ax:=al.grown Q (fun e=>f e.symm) (fun ad e h0 he=>qn);have b:=QY aF Q (fun g e=>.inl (d g e));have a:Qh (zs++[x]):=by
    intro z r;rcases List.mem_append.1 r with h|h
    ·exact ah z h
    ·simp at h;subst h;exact ⟨V,u⟩
   have C:dm ((zs++[x]).length=k+1):=qo;clear R aa Q P S al aF ah HL L hx;generalize zs++[x]=zz at*;go_wp2_with fail;go_roundw
   case rel=>exact ⟨k+1,dk,dw,l,K,zz,rfl,C,a,av,ax,b⟩
   case measure=>simp [intOf];omega
  ·have e:k=n:=dk
   subst e;go_wp2_with fail;go_ret;exact ⟨⟨ao,cap,zs,rfl,ho,ah,HL.u⟩,hc,O⟩
theorem QlL(co:Option Addr)(cc:Nat)(cs:List Int)(w:World)(hr:Q1 w co cs)(hl:cs.length<=1048576):
  Calls prog 17 #[.slice co cs.length cc] w fun e w'=>∃p,e=.returned (.pointer (some ⟨p,0,none⟩))/\(∃h,Src w' p (.slice co cs.length cc) 0 h)/\p=w.heap.size/\Below w.heap.size w w'/\p<w'.heap.size:=by
 go_enter func17,ntmps17;go_wp2_with fail;go_loop [3,4] (fun h i=>∃k:Nat,∃x:Int,k<=cs.length/\i=.int .i64 k/\h=.int .i64 x) (fun _ i=>cs.length-(intOf i).toNat)
 case atStart=>exact ⟨0,_,Nat.zero_le _,rfl,rfl⟩
 case round=>
  obtain ⟨k,x,hk,rfl,rfl⟩:=hrel;by_cases ab:k<cs.length
  ·obtain ⟨b,U,rfl,I⟩:=hr.at ab
   have a2:=I k ab;clear I hr;generalize cs.getD k 0=y at*;go_wp2_with fail;go_round
   case rel=>exact ⟨k+1,_,dk,dw,rfl⟩
   case measure=>simp [intOf];omega
  ·clear hr
   go_wp2_with fail;go_ret;exact ⟨_,rfl,⟨_,Qlx w _ 0 x _⟩,rfl,(Below.refl _ _).alloc (Nat.le_refl _) _,dr⟩
theorem Qdn(p:Nat)(co:Option Addr)(cc:Nat)(cs:List Int)(n:Int)(w:World)(hc:Cur w p co cc cs)(n0:1<=n)(n1:n<=1000000):
  Calls prog 20 #[.pointer (some ⟨p,0,none⟩),.int .i64 n] w fun e w'=>(∃b:Bool,e=.returned (.bool b))/\Cur w' p co cc cs/\w.grownBy w' (some p):=by
 go_enter func20,ntmps20;go_wp2_with fail;refine (QaT p co cc cs n w hc n0 n1).mono ?_;rintro e w1 ⟨⟨k,rfl,k0,k1⟩,m,I⟩;go_wp2_with fail;go_ret;exact ⟨⟨_,rfl⟩,m,I⟩
end
end Go.Proofs.YtgginbpmebgkcaaGreatDoor
namespace Go.Proofs.YtgginbpmebgkcaaGreatDoor
open Go.RowKit Go.Proofs.Tryz
attribute [local go_sem ↓] Go.wp_at_zero Go.wp_at_succ
set_option linter.unusedVariables false
set_option maxRecDepth 100000
set_option maxHeartbeats 25600000
theorem Q9{p:Prop}(h:p):dm p:=h
theorem QeX(p:Nat)(co:Option Addr)(cc:Nat)(cs:List Int)(M:Nat)(w:World)(hc:Cur w p co cc cs)(hM0:1<=M)(hM:M<=200)(hco:∀ad,co=some ad->0<cs.length->ad.block<w.heap.size):
  Calls prog 18 #[.pointer (some ⟨p,0,none⟩),.int .i64 (M:Nat)] w fun e w'=>(∃ao cap zs,e=.returned (.slice ao zs.length cap)/\Qi 5 w.heap.size w' ao cap zs/\Qh zs/\zs.length<M)/\Cur w' p co cc cs/\w.grownBy w' (some p):=by
 refine dP ?_;intro i0 hi af ak aq;refine kJ ?_;intro N s;have HC:=Q9 hc;clear hco hc;go_enter func18,ntmps18;go_wp2_with fail;refine (QaT p co cc cs (M:Nat) w HC.u dk dk).mono ?_;rintro e w1 ⟨⟨o,rfl,O,Z⟩,m,I⟩;obtain ⟨n,rfl⟩:=Int.eq_ofNat_of_zero_le O;have a4:=Q9 m;have q:=Q9 I;clear m I HC O;go_wp2_with fail;refine (Qdn p co cc cs 6 w1 a4.u dn dn).mono ?_;rintro e w2 ⟨⟨b,rfl⟩,al,ag⟩;have aA:=Q9 al;have G:=Q9<|QY q.u ag (fun g e=>kW)
 have A:w.heap.size<=w2.heap.size:=G.u.size;clear al ag a4 q;have L:dm (∀ad,co=some ad->0<cs.length->ad.block<w2.heap.size):=fun ad e h0=>by have:=s.u ad e h0;omega
 cases b with
 | true=>
  go_wp2_with fail;refine (QjI p co cc cs n w2 aA.u dk L.u).mono ?_;rintro e w3 ⟨⟨ao,cap,zs,rfl,av,ah,ai⟩,ax,aw⟩;have HL:dm (zs.length=n):=ai;have aB:=Q9<|av.mono (B':=w.heap.size) A
  have ay:=Q9 ah;have a3:=Q9 ax;have a:=Q9<|QY G.u aw (fun g e=>kW)
  clear ai av ah ax aw;go_wp2_with fail;go_ret;exact ⟨⟨ao,cap,zs,rfl,aB.u,ay.u,iG⟩,a3.u,a.u⟩
 | false=>
  have B:=aA.u.grown (World.grownBy_alloc w2 (.cells #[] 5) none) dr dr;have az:Qi 5 w.heap.size (w2.alloc (.cells #[] 5)) (some ⟨w2.heap.size,0,none⟩) 0 []:=own1 w2 _ _ _ A rfl;have H:w.grownBy (w2.alloc (.cells #[] 5)) (some p):=QY G.u (World.grownBy_alloc w2 _ none) (fun g e=>dx);have t:=Q9 B;have a6:=Q9 az;have bF:=Q9 H;clear B az H;go_wp2_with fail;go_loopw [6,7,8] (fun v i _ wr=>∃k:Nat,k<=n/\i=.int .i64 k/\∃ao cap zs,v=.slice ao zs.length cap/\dm (zs.length=k)/\dm (Qh zs)/\dm (Qi 5 w.heap.size wr ao cap zs)/\dm (Cur wr p co cc cs)/\dm (w.grownBy wr (some p))) (fun _ i _ _=>n-(intOf i).toNat)
  case atStart=>exact ⟨0,Nat.zero_le _,rfl,_,0,[],rfl,rfl,(fun z r=>by cases r),a6,t,bF⟩
  case round=>
   clear t a6 bF aA G;obtain ⟨k,hk,rfl,ao,cap,zs,rfl,HL,ay,HO,J,HG⟩:=hrel;by_cases ab:k<n
   ·go_wp2_with fail
    refine (QaT p co cc cs 3 wr J.u dn dn).mono ?_;rintro e w1 ⟨⟨y,rfl,y0,F⟩,m,I⟩;have f:Qt ao≠some p:=HO.u.mine.far N;have a0:=HO.u.grown I ft;have c:=QY HG.u I ql;obtain ⟨x,hx⟩:∃x:Int,97+y=x:=⟨_,rfl⟩;have V:0<=x:=dk;have u:x<=255:=dk;have Y:IntKind.u8.wrap x=x:=dV;have ae:x%256=x:=dk;refine qm ?_;intro T S al aF;have D:zs.length<=1000:=iG;have E:=Q9<|QbX w1 x 5
    have an:=Q9 S;have aA:=Q9 al;have U:=Q9 aF;have X:dm (w.heap.size<=(w1.alloc (.cells #[.int .u8 x] 5)).heap.size):=aF.size;clear HO J a0 m I HG c T S al aF;go_wp2_with (at_builtin;refine Qm _ rfl _ _ 22 rfl w.heap.size 5 i0 (.int .u8 0) 1 underlying22 hi af ak aq rfl (.slice ao zs.length cap) zs.length (zs.map (Value.int .u8)) rfl an.u (some ⟨w1.heap.size,0,none⟩) 1 [x] rfl E.u (fun e=>dx) dK du X.u ?_)
    intro v' w2 R Q aa;rw [show zs.map (Value.int .u8)++[Value.int .u8 x]=(zs++[x]).map (Value.int .u8) from dr] at R;obtain ⟨l,K,e',av⟩:=Qi.of R;subst e'
    have P:(Value.slice ao zs.length cap).ownBlock=Qt ao:=g8;rw [P] at Q;have d:∀g,Qt ao=some g->w.heap.size<=g:=by
     intro g e;rcases Nat.lt_or_ge g w.heap.size with h|h
     ·exact absurd e (an.u.mine.far h)
     ·exact h
    have a3:=Q9<|aA.u.grown Q (fun e=>f e.symm) (fun ad e h0 he=>qn)
    have aj:=Q9<|QY U.u Q (fun g e=>.inl (d g e))
    have W:dm (Qh (zs++[x])):=by
     intro z r;rcases List.mem_append.1 r with h|h
     ·exact ay.u z h
     ·simp at h;subst h;exact ⟨V,u⟩
    have C:dm ((zs++[x]).length=k+1):=qo;have aB:=Q9 av;clear R aa Q P an aA U ay HL E hx Y ae av d;generalize zs++[x]=zz at*;go_wp2_with fail;go_roundw
    case rel=>exact ⟨k+1,dk,dw,l,K,zz,rfl,C,W,aB,a3,aj⟩
    case measure=>simp [intOf];omega
   ·have e:k=n:=dk
    subst e;go_wp2_with fail;go_ret;exact ⟨⟨ao,cap,zs,rfl,HO.u,ay.u,iG⟩,J.u,HG.u⟩
theorem Qjz(W:World)(B:Nat)(x:Int)(t:TypeId)(hB:B<=W.heap.size):Qi t B (W.alloc (.cells #[.int .u8 x] t)) (some ⟨W.heap.size,0,none⟩) 1 [x]:=
 World.ownsRow_lit W #[.int .u8 x] 1 hB dy rfl
theorem Qk1(p:Nat)(co:Option Addr)(cc:Nat)(cs:List Int)(w:World)(hc:Cur w p co cc cs)(hco:∀ad,co=some ad->0<cs.length->ad.block<w.heap.size):
  Calls prog 21 #[.pointer (some ⟨p,0,none⟩)] w fun e w'=>(∃ao cap zs,e=.returned (.slice ao zs.length cap)/\Qi 5 w.heap.size w' ao cap zs/\Qh zs/\zs.length<=16)/\Cur w' p co cc cs/\w.grownBy w' (some p):=by
 refine dP ?_;intro i0 hi af ak aq;refine kJ ?_;intro N s;have HC:=Q9 hc;clear hco hc;go_enter func21,ntmps21;go_wp2_with fail;refine (Qdn p co cc cs 2 w HC.u dn dn).mono ?_;rintro e w1 ⟨⟨b,rfl⟩,m,I⟩;have r:w.heap.size<=w1.heap.size:=I.size;have a4:=Q9 m;have q:=Q9 I;clear m I HC;cases b with
 | true=>
  have t:=Q9<|a4.u.grown (World.grownBy_alloc w1 (.cells #[] 5) none) dr dr
  have a6:dm (Qi 5 w.heap.size (w1.alloc (.cells #[] 5)) (some ⟨w1.heap.size,0,none⟩) 0 []):=own1 w1 _ _ _ r rfl;have bF:dm (w.grownBy (w1.alloc (.cells #[] 5)) (some p)):=QY q.u (World.grownBy_alloc w1 _ none) (fun g e=>dx);go_wp2_with fail;go_ret;exact ⟨⟨_,0,[],rfl,a6.u,(fun z r=>by cases r),dr⟩,t.u,bF.u⟩
 | false=>
  have ha:w1.grownBy (w1.alloc (.cells #[.int .u8 100] 5)) none:=World.grownBy_alloc w1 _ _;have f:(w1.alloc (.cells #[.int .u8 100] 5)).heap.size=w1.heap.size+1:=dr;have aA:=Q9<|a4.u.grown ha dr dr
  have an:dm (Qi 5 w.heap.size (w1.alloc (.cells #[.int .u8 100] 5)) (some ⟨w1.heap.size,0,none⟩) 1 [100]):=Qjz w1 _ 100 _ r;have G:dm (w.grownBy (w1.alloc (.cells #[.int .u8 100] 5)) (some p)):=QY q.u ha (fun g e=>dx);have HL:=Q9<|QeX p co cc cs 16 (w1.alloc (.cells #[.int .u8 100] 5)) aA.u dn dn (fun ad e h0=>by rw [f];have:=s.u ad e h0;omega)
  rw [f] at HL;clear a4 q aA ha;go_wp2_with fail;refine HL.u.mono ?_;rintro e w3 ⟨⟨C,cD,zs,rfl,av,ah,ai⟩,ax,aw⟩;have d:=Q9 av.mine;have ay:=Q9 ah;have a3:=Q9 ax;have aB:=Q9<|an.u.grown aw (fun k e e2=>by simp [Qt] at e e2;omega)
  have a:=Q9<|QY G.u aw (fun g e=>kW)
  have ba:dm (w.heap.size<=w3.heap.size):=a.u.size;clear av ah ax aw G an HL;go_wp2_with (at_builtin;refine Qm _ rfl _ _ 22 rfl w.heap.size 5 i0 (.int .u8 0) 1 underlying22 hi af ak aq rfl (.slice (some ⟨w1.heap.size,0,none⟩) 1 1) 1 [.int .u8 100] rfl aB.u C cD zs rfl d.u.row d.u.nil_len dy dk ba.u ?_)
  intro v' w4 R Q aa;have ar:1+zs.length=([100]++zs:List Int).length:=du;have H:w4.ownsRow w.heap.size 5 1 v' ([100]++zs:List Int).length (([100]++zs:List Int).map (Value.int .u8)):=by rw [<-ar];exact R
  obtain ⟨l,K,e',a2⟩:=Qi.of H;subst e'
  have n:=Q9<|a3.u.grown Q gL (fun ad e h0 he=>by have:=s.u ad e h0;simp [Value.ownBlock] at he;omega)
  have c:=Q9<|QY a.u Q (fun g e=>.inl ru)
  have U:=Q9 a2;have HX:dm (Qh ([100]++zs)):=fun z r=>by
   rcases List.mem_append.1 r with h|h
   ·simp at h;subst h;omega
   ·exact ay.u z h
  have y:([100]++zs:List Int).length<=16:=by rw [<-ar];omega
  clear R H aa Q a2 a3 a aB d ay ar;generalize ([100]++zs:List Int)=zz at*;go_wp2_with fail;go_ret;exact ⟨⟨l,K,zz,rfl,U.u,HX.u,y⟩,n.u,c.u⟩
theorem Qj7(co:Option Addr)(cc:Nat)(cs:List Int)(w:World)(hr:Q1 w co cs)(ho:Qh cs)(hl:cs.length<=1048576):
  Calls prog 4 #[.slice co cs.length cc] w fun e w'=>∃ao cap zs info bo cb d,e=.returned (.tuple #[.slice ao zs.length cap,.int .i64 info,.slice bo d.length cb])/\Qi 5 w.heap.size w' ao cap zs/\Qh zs/\zs.length<30/\Qi 5 w.heap.size w' bo cb d/\Qh d/\d.length<=16/\(-1<=info/\info<=8)/\Below w.heap.size w w':=by
 have bF:=hr.lives;go_enter func4,ntmps4;go_wp2_with fail;refine (QlL co cc cs w hr hl).mono ?_;rintro e w1 ⟨p,rfl,⟨h,E⟩,rfl,aj,C⟩;have m:Cur w1 w.heap.size co cc cs:=⟨0,h,Nat.zero_le _,E,hr.below aj,ho,fun ad e h0=>by have:=bF ad e h0;omega,hl⟩;have a4:=Q9 m;have o:=Q9 aj;have s:dm (∀ad,co=some ad->0<cs.length->ad.block<w1.heap.size):=fun ad e h0=>by have:=bF ad e h0;omega
 clear E m aj bF hr ho;go_wp2_with fail;refine (QeX w.heap.size co cc cs 30 w1 a4.u dn dn s.u).mono ?_;rintro e w2 ⟨⟨ao,cap,zs,rfl,S,ah,ai⟩,al,ag⟩;have an:=Q9 S;have ay:=Q9 ah;have au:dm (zs.length<30):=ai;have aA:=Q9 al;have G:=Q9 ag;have f:Qt ao≠some w.heap.size:=S.mine.far C;clear S ah ai al ag a4;go_wp2_with fail;refine (QaT w.heap.size co cc cs 8 w2 aA.u dn dn).mono ?_;rintro e w3 ⟨⟨x,rfl,V,u⟩,ax,aw⟩;have a3:=Q9 ax;have aB:=Q9<|an.u.grown aw ft
 have a:=Q9<|Qj G.u aw
 clear ax aw aA an G;go_wp2_with fail;refine (Qdn w.heap.size co cc cs 12 w3 a3.u dn dn).mono ?_;rintro e w4 ⟨⟨b,rfl⟩,B,F⟩;have n:=Q9 B;have U:=Q9<|aB.u.grown F ft
 have c:=Q9<|Qj a.u F
 clear B F a3 aB a;have az:dm (∀W (hg:w1.grownBy W (some w.heap.size)) (hO:Qi 5 w1.heap.size W ao cap zs),Qi 5 w.heap.size W ao cap zs/\Below w.heap.size w W):=fun W hg hO=>⟨hO.mono dk,o.u.grown hg dk dz⟩
 have r:dm (∀W (hc:Cur W w.heap.size co cc cs) (hg:w1.grownBy W (some w.heap.size)) (hO:Qi 5 w1.heap.size W ao cap zs),Calls prog 21 #[.pointer (some ⟨w.heap.size,0,none⟩)] W fun e w'=>∃bo cb d,e=.returned (.slice bo d.length cb)/\Qi 5 w.heap.size w' bo cb d/\Qh d/\d.length<=16/\Qi 5 w.heap.size w' ao cap zs/\Below w.heap.size w w'):=fun W hc hg hO=>by
  refine (Qk1 w.heap.size co cc cs W hc (fun ad e h0=>Nat.lt_of_lt_of_le (s.u ad e h0) hg.size)).mono ?_;rintro e w' ⟨⟨bo,cb,d,rfl,l,i,t⟩,_,g⟩;have J:=az.u w' (Qj hg g) (hO.grown g ft);have D:w1.heap.size<=W.heap.size:=hg.size;exact ⟨bo,cb,d,rfl,l.mono dk,i,t,J.1,J.2⟩
 cases b with
 | true=>
  go_wp2_with fail;refine (QaT w.heap.size co cc cs 2 w4 n.u dn dn).mono ?_;rintro e w5 ⟨⟨z,rfl,av,I⟩,A,Y⟩;have H:=Q9<|r.u w5 A (Qj c.u Y) (U.u.grown Y ft)
  clear A Y n U c az r;obtain ⟨y,hy⟩:∃y:Int,9*z-1=y:=⟨_,rfl⟩;have cd:-1<=y/\y<=8:=dk;go_wp2_with fail;refine H.u.mono ?_;rintro e w6 ⟨bo,cb,d,rfl,l,i,t,q,K⟩;have M:=Q9 l;have D2:=Q9 i;have D3:dm (d.length<=16):=t;have D4:=Q9 q;have D5:=Q9 K;clear l i t q K H;go_wp2_with fail;exact bodyPost_ret (v:=.tuple #[.slice ao zs.length cap,.int .i64 y,.slice bo d.length cb]) sR rfl ⟨ao,cap,zs,_,bo,cb,d,rfl,D4.u,ay.u,au.u,M.u,D2.u,D3.u,⟨dk,dk⟩,D5.u⟩
 | false=>
  have H:=Q9<|r.u w4 n.u c.u U.u
  clear n U c az r;go_wp2_with fail;refine H.u.mono ?_;rintro e w6 ⟨bo,cb,d,rfl,l,i,t,q,K⟩;have M:=Q9 l;have D2:=Q9 i;have D3:dm (d.length<=16):=t;have D4:=Q9 q;have D5:=Q9 K;clear l i t q K H;go_wp2_with fail;exact bodyPost_ret (v:=.tuple #[.slice ao zs.length cap,.int .i64 x,.slice bo d.length cb]) sR rfl ⟨ao,cap,zs,_,bo,cb,d,rfl,D4.u,ay.u,au.u,M.u,D2.u,D3.u,⟨dk,dk⟩,D5.u⟩
end Go.Proofs.YtgginbpmebgkcaaGreatDoor
