import Derived.Test.YtgginbpmebgkcaaGreatDoorMAN
import Derived.Test.YtgginbpmebgkcaaGreatDoorMAR
import Derived.Test.YtgginbpmebgkcaaGreatDoorMAU
namespace Go.Proofs.YtgginbpmebgkcaaGreatDoor
open Go.RowKit Go.Proofs.Tryz
set_option maxRecDepth 100000
set_option maxHeartbeats 25600000
section
variable {KH : Nat → Option Obj}
attribute [local go_sem ↓] Go.wp_at_zero Go.wp_at_succ
set_option linter.unusedVariables false
theorem QhW(w:World)(x:Nat)(t:TypeId):Q1 (w.alloc (.cells #[.int .u8 (x:Nat)] t)) (some ⟨w.heap.size,0,none⟩) [(x:Int)]:=by
 intro i hi;have H:i=0:=by simp at hi;omega
 subst H;exact ⟨w.heap.size,0,rfl,dF⟩
def VS(s:Nat)(zs:List Int)(c:IC):IC⊕(Int×IC):=
 if (nx3 c.ul (field (bnum zs) c.lc.i (Nat.min (8*zs.length-c.lc.i) 15)) (Nat.min (8*zs.length-c.lc.i) 15)).1=1 then
  if (nx3 c.ul (field (bnum zs) c.lc.i (Nat.min (8*zs.length-c.lc.i) 15)) (Nat.min (8*zs.length-c.lc.i) 15)).2.1<256 then
   if 100000<c.u.length+1 then .inr (6,{c with lc:={c.lc with i:=c.lc.i+(nx3 c.ul (field (bnum zs) c.lc.i (Nat.min (8*zs.length-c.lc.i) 15)) (Nat.min (8*zs.length-c.lc.i) 15)).2.2}}) else .inl (Qap s {c with lc:={c.lc with i:=c.lc.i+(nx3 c.ul (field (bnum zs) c.lc.i (Nat.min (8*zs.length-c.lc.i) 15)) (Nat.min (8*zs.length-c.lc.i) 15)).2.2}} [((nx3 c.ul (field (bnum zs) c.lc.i (Nat.min (8*zs.length-c.lc.i) 15)) (Nat.min (8*zs.length-c.lc.i) 15)).2.1:Int)])
  else if (nx3 c.ul (field (bnum zs) c.lc.i (Nat.min (8*zs.length-c.lc.i) 15)) (Nat.min (8*zs.length-c.lc.i) 15)).2.1=256 then .inl {c with st:=8,lc:={c.lc with i:=c.lc.i+(nx3 c.ul (field (bnum zs) c.lc.i (Nat.min (8*zs.length-c.lc.i) 15)) (Nat.min (8*zs.length-c.lc.i) 15)).2.2}}
  else if 285<(nx3 c.ul (field (bnum zs) c.lc.i (Nat.min (8*zs.length-c.lc.i) 15)) (Nat.min (8*zs.length-c.lc.i) 15)).2.1 then .inr (3,{c with lc:={c.lc with i:=c.lc.i+(nx3 c.ul (field (bnum zs) c.lc.i (Nat.min (8*zs.length-c.lc.i) 15)) (Nat.min (8*zs.length-c.lc.i) 15)).2.2}})
  else .inl {c with st:=13,base:=(VF (nx3 c.ul (field (bnum zs) c.lc.i (Nat.min (8*zs.length-c.lc.i) 15)) (Nat.min (8*zs.length-c.lc.i) 15)).2.1).1,extra:=(VF (nx3 c.ul (field (bnum zs) c.lc.i (Nat.min (8*zs.length-c.lc.i) 15)) (Nat.min (8*zs.length-c.lc.i) 15)).2.1).2,lc:={c.lc with i:=c.lc.i+(nx3 c.ul (field (bnum zs) c.lc.i (Nat.min (8*zs.length-c.lc.i) 15)) (Nat.min (8*zs.length-c.lc.i) 15)).2.2}}
 else if (nx3 c.ul (field (bnum zs) c.lc.i (Nat.min (8*zs.length-c.lc.i) 15)) (Nat.min (8*zs.length-c.lc.i) 15)).1=2 then .inr (2,c) else .inr (3,c)
theorem QhS(q p hB g s B:Nat)(zs:List Int)(aft:Value)(c:IC)(w:World)(hM:Q2 KH q p hB g s B zs aft w c)(hs:c.st=12)(hol:c.u.length<=100000)(hul:c.ul.length<=320)(hz:Qh zs)(hzl:zs.length<=65536):
  Calls prog 152 #[.pointer (some ⟨q,0,none⟩)] w fun e w'=>Qz KH q p hB g s B zs aft (VS s zs c) e w w':=by
 have y:=hM.lt;have HM:=Qe hM;obtain ⟨T,d,_⟩:=hM.ex;obtain ⟨u,lo,hi,N,C,U⟩:=d.c34.2 dk dk;have D:u≠p:=fun e=>d.ne.2.2.2.2.2.1 (e▸(U u C.ge C.lt).1)
 have X:u<w.heap.size:=d.tlt u (U u C.ge C.lt).1;obtain ⟨S,Sl,ml,Ll,td,Sd,md,Ld,u0,Y,TL,TD⟩:=C.now;refine fS ?_;intro hd a f j;obtain ⟨n,M⟩:=dt (Nat.min (8*zs.length-c.lc.i) 15);have aq:=Qe<|Qdi q p hB S ml Sl Ll c.ul zs c.lc.i n w.drew a.lm.c0 hM.lm.ne a.lm.rd (TL.below hd) hz hzl M
 unfold VS;rw [M];have Q:=Qbi c.ul (field (bnum zs) c.lc.i n) n;have H:=QaP (ls:=c.ul) (b:=field (bnum zs) c.lc.i n) (n:=n);rcases hx:nx3 c.ul (field (bnum zs) c.lc.i n) n with ⟨k,r,l⟩;rw [hx] at aq Q H;dsimp only at Q H ⊢;have E:=Qe hM.bs;have HS:=Qe hs;clear hs;clear hM a hx d C U TL TD Y;by_cases au:k=1
 ·subst au
  rw [if_pos rfl];obtain ⟨L,ab⟩:=H rfl;have A:dm (Calls prog 180 #[.pointer (some ⟨q,0,none⟩),.pointer (some ⟨S,0,none⟩)] w.drew fun e w'=>e=.returned (.tuple #[.int .i64 (r:Nat),.nilIface])/\Rd w' p hB zs (c.lc.i+l)/\w.drew.grownBy w' (some p)):=Calls.mono aq.u (fun e w' h=>h.1 rfl);clear aq Q H;by_cases aJ:r<256
  ·rw [if_pos aJ]
   have ax:decide ((r:Int)<256)=true:=decide_eq_true dk;by_cases h6:100000<c.u.length+1
   ·rw [if_pos h6]
    have aR:IntKind.u8.wrap (r:Int)=(r:Int):=dV;go_enter func152,ntmps152;go_upto_region 1 with fail;go_region_held3 (fun w'=>w'.cell? ⟨q,34,none⟩=some (.pointer (some ⟨u,0,none⟩))/\w'.cell? ⟨u,0,none⟩=some (.pointer (some ⟨S,0,none⟩))/\q<w'.heap.size/\u<w'.heap.size)
     (first|(with_reducible assumption)|(go_keep;done)|(exact ⟨dC,dC,dC,dC⟩))
     ((go_at_call 180;refine Calls.mono A.u ?_;rintro e w2 ⟨rfl,P,O⟩;have K:w2.cell? ⟨q,34,none⟩=some (.pointer (some ⟨u,0,none⟩))/\w2.cell? ⟨u,0,none⟩=some (.pointer (some ⟨S,0,none⟩))/\q<w2.heap.size/\u<w2.heap.size:=⟨O.cell (show w.drew.cell? ⟨q,34,none⟩=some (.pointer (some ⟨u,0,none⟩)) from N) d7,O.cell (show w.drew.cell? ⟨u,0,none⟩=some (.pointer (some ⟨S,0,none⟩)) from u0) dQ,Nat.lt_of_lt_of_le y O.size,Nat.lt_of_lt_of_le X O.size⟩;obtain ⟨K1,K2,K3,K4⟩:=K))
    refine fT ?_;intro J x o;have an:=J.lt;obtain ⟨V,t,_⟩:=J.ex;clear J P O A HM N u0 K1 K2 hd f j;clear t;have ba:Below w2.heap.size w2 (w2.alloc (.cells #[.int .u8 (r:Nat)] 5)):=(Below.refl _ _).alloc (Nat.le_refl _) _;have h3:=x.u.below ba;have TE:=Qe (Qd3 q p hB g s B zs aft _ (some ⟨w2.heap.size,0,none⟩) 1 [(r:Int)] _ h3 eQ (show c.u.length<=100000 from hol) (QhW w2 r 5) (fun e=>dx) dr dy dr (fun ad e=>by
     cases e
     obtain ⟨T3,m,_⟩:=x.u.ex;refine ⟨by show w2.heap.size≠q;omega,?_,fun ao n cap e1 e2=>?_⟩
     ·have F:g<w2.heap.size:=oS
      show w2.heap.size≠g;omega
     ·rw [ba.cell (p:=⟨q,30,none⟩) an] at e1
      have:=(m.at30 ao n cap w2.heap.size e1 e2).1;omega))
    rw [show ([(r:Int)]:List Int).length=1 from rfl] at TE;have z:=Qe<|o.u.trans (ba.mono (show B<=w2.heap.size from eP))
    clear ba h3 x o;go_wp2_with fail;refine Calls.mono TE.u ?_;rintro e w4 hP;obtain ⟨rfl,hX,hT⟩:=hP.2 (show 100000<c.u.length+1 from h6);have HX:=Qe hX;have HT:=Qe<|z.u.trans hT
    clear hP hX hT TE z;go_wp2_with fail;exact bodyPost_ret (v:=.tuple #[.func (Fn.func 152) #[.pointer (some ⟨q,0,none⟩)] #[],flt 6]) kf rfl (Qz.no HX.u HT.u)
   ·rw [if_neg h6]
    have aR:IntKind.u8.wrap (r:Int)=(r:Int):=dV;go_enter func152,ntmps152;go_upto_region 1 with fail;go_region_held3 (fun w'=>w'.cell? ⟨q,34,none⟩=some (.pointer (some ⟨u,0,none⟩))/\w'.cell? ⟨u,0,none⟩=some (.pointer (some ⟨S,0,none⟩))/\q<w'.heap.size/\u<w'.heap.size)
     (first|(with_reducible assumption)|(go_keep;done)|(exact ⟨dC,dC,dC,dC⟩))
     ((go_at_call 180;refine Calls.mono A.u ?_;rintro e w2 ⟨rfl,P,O⟩;have K:w2.cell? ⟨q,34,none⟩=some (.pointer (some ⟨u,0,none⟩))/\w2.cell? ⟨u,0,none⟩=some (.pointer (some ⟨S,0,none⟩))/\q<w2.heap.size/\u<w2.heap.size:=⟨O.cell (show w.drew.cell? ⟨q,34,none⟩=some (.pointer (some ⟨u,0,none⟩)) from N) d7,O.cell (show w.drew.cell? ⟨u,0,none⟩=some (.pointer (some ⟨S,0,none⟩)) from u0) dQ,Nat.lt_of_lt_of_le y O.size,Nat.lt_of_lt_of_le X O.size⟩;obtain ⟨K1,K2,K3,K4⟩:=K))
    refine fT ?_;intro J x o;have an:=J.lt;obtain ⟨V,t,_⟩:=J.ex;clear J P O A HM N u0 K1 K2 hd f j;clear t;have ba:Below w2.heap.size w2 (w2.alloc (.cells #[.int .u8 (r:Nat)] 5)):=(Below.refl _ _).alloc (Nat.le_refl _) _;have h3:=x.u.below ba;have TE:=Qe (Qd3 q p hB g s B zs aft _ (some ⟨w2.heap.size,0,none⟩) 1 [(r:Int)] _ h3 eQ (show c.u.length<=100000 from hol) (QhW w2 r 5) (fun e=>dx) dr dy dr (fun ad e=>by
     cases e
     obtain ⟨T3,m,_⟩:=x.u.ex;refine ⟨by show w2.heap.size≠q;omega,?_,fun ao n cap e1 e2=>?_⟩
     ·have F:g<w2.heap.size:=oS
      show w2.heap.size≠g;omega
     ·rw [ba.cell (p:=⟨q,30,none⟩) an] at e1
      have:=(m.at30 ao n cap w2.heap.size e1 e2).1;omega))
    rw [show ([(r:Int)]:List Int).length=1 from rfl] at TE;have z:=Qe<|o.u.trans (ba.mono (show B<=w2.heap.size from eP))
    clear ba h3 x o;go_wp2_with fail;refine Calls.mono TE.u ?_;rintro e w4 hP;obtain ⟨rfl,hX,hT⟩:=hP.1 (show c.u.length+1<=100000 by omega);have HX:=Qe hX;have HT:=Qe<|z.u.trans hT
    clear hP hX hT TE z;go_wp2_with fail;exact bodyPost_ret (v:=.tuple #[.func (Fn.func 152) #[.pointer (some ⟨q,0,none⟩)] #[],.nilIface]) kg rfl (Qz.ok oT HX.u HT.u)
  ·rw [if_neg aJ]
   have ax:decide ((r:Int)<256)=false:=decide_eq_false dk;by_cases he:r=256
   ·rw [if_pos he]
    have aw:((r:Int) == 256)=true:=du;clear he;go_enter func152,ntmps152;go_upto_region 1 with fail;go_region_held3 (fun w'=>w'.cell? ⟨q,34,none⟩=some (.pointer (some ⟨u,0,none⟩))/\w'.cell? ⟨u,0,none⟩=some (.pointer (some ⟨S,0,none⟩))/\q<w'.heap.size/\u<w'.heap.size)
     (first|(with_reducible assumption)|(go_keep;done)|(exact ⟨dC,dC,dC,dC⟩))
     ((go_at_call 180;refine Calls.mono A.u ?_;rintro e w2 ⟨rfl,P,O⟩;have K:w2.cell? ⟨q,34,none⟩=some (.pointer (some ⟨u,0,none⟩))/\w2.cell? ⟨u,0,none⟩=some (.pointer (some ⟨S,0,none⟩))/\q<w2.heap.size/\u<w2.heap.size:=⟨O.cell (show w.drew.cell? ⟨q,34,none⟩=some (.pointer (some ⟨u,0,none⟩)) from N) d7,O.cell (show w.drew.cell? ⟨u,0,none⟩=some (.pointer (some ⟨S,0,none⟩)) from u0) dQ,Nat.lt_of_lt_of_le y O.size,Nat.lt_of_lt_of_le X O.size⟩;obtain ⟨K1,K2,K3,K4⟩:=K))
    refine fT ?_;intro J x o;obtain ⟨V,t,_⟩:=J.ex;clear J P O A HM N u0 K1 K2 hd f j;clear t;go_wp2_with fail;exact bodyPost_ret (v:=.tuple #[.func (Fn.func 182) #[.pointer (some ⟨q,0,none⟩)] #[],.nilIface]) kg rfl (Qz.ok rfl (x.u.at eQ 8 dk (fun h _=>dk)) o.u)
   ·rw [if_neg he]
    have aw:((r:Int) == 256)=false:=du;by_cases af:285<r
    ·rw [if_pos af]
     have ah:decide ((r:Int) > 285)=true:=decide_eq_true dk;clear he;go_enter func152,ntmps152;go_upto_region 1 with fail;go_region_held3 (fun w'=>w'.cell? ⟨q,34,none⟩=some (.pointer (some ⟨u,0,none⟩))/\w'.cell? ⟨u,0,none⟩=some (.pointer (some ⟨S,0,none⟩))/\q<w'.heap.size/\u<w'.heap.size)
      (first|(with_reducible assumption)|(go_keep;done)|(exact ⟨dC,dC,dC,dC⟩))
      ((go_at_call 180;refine Calls.mono A.u ?_;rintro e w2 ⟨rfl,P,O⟩;have K:w2.cell? ⟨q,34,none⟩=some (.pointer (some ⟨u,0,none⟩))/\w2.cell? ⟨u,0,none⟩=some (.pointer (some ⟨S,0,none⟩))/\q<w2.heap.size/\u<w2.heap.size:=⟨O.cell (show w.drew.cell? ⟨q,34,none⟩=some (.pointer (some ⟨u,0,none⟩)) from N) d7,O.cell (show w.drew.cell? ⟨u,0,none⟩=some (.pointer (some ⟨S,0,none⟩)) from u0) dQ,Nat.lt_of_lt_of_le y O.size,Nat.lt_of_lt_of_le X O.size⟩;obtain ⟨K1,K2,K3,K4⟩:=K))
     refine fT ?_;intro J x o;obtain ⟨V,t,_⟩:=J.ex;clear J P O A HM N u0 K1 K2 hd f j;clear t;go_wp2_with fail;exact bodyPost_ret (v:=.tuple #[.nilFunc,flt 3]) kf rfl (Qz.no x.u o.u)
    ·rw [if_neg af]
     have ah:decide ((r:Int) > 285)=false:=decide_eq_false dk;obtain ⟨ba,ex,ag⟩:∃ba ex,VF r=(ba,ex):=⟨_,_,rfl⟩;rw [ag];dsimp only;have ae:=Qe ag;clear ag;go_enter func152,ntmps152;go_upto_region 1 with fail;go_region_held3 (fun w'=>w'.cell? ⟨q,34,none⟩=some (.pointer (some ⟨u,0,none⟩))/\w'.cell? ⟨u,0,none⟩=some (.pointer (some ⟨S,0,none⟩))/\q<w'.heap.size/\u<w'.heap.size)
      (first|(with_reducible assumption)|(go_keep;done)|(exact ⟨dC,dC,dC,dC⟩))
      ((go_at_call 180;refine Calls.mono A.u ?_;rintro e w2 ⟨rfl,P,O⟩;have K:w2.cell? ⟨q,34,none⟩=some (.pointer (some ⟨u,0,none⟩))/\w2.cell? ⟨u,0,none⟩=some (.pointer (some ⟨S,0,none⟩))/\q<w2.heap.size/\u<w2.heap.size:=⟨O.cell (show w.drew.cell? ⟨q,34,none⟩=some (.pointer (some ⟨u,0,none⟩)) from N) d7,O.cell (show w.drew.cell? ⟨u,0,none⟩=some (.pointer (some ⟨S,0,none⟩)) from u0) dQ,Nat.lt_of_lt_of_le y O.size,Nat.lt_of_lt_of_le X O.size⟩;obtain ⟨K1,K2,K3,K4⟩:=K))
     have J:=f.u.went P O;have x:=Qe J;have o:=Qe<|j.u.trans (f.u.bel O)
     have an:=J.lt;obtain ⟨V,t,_⟩:=J.ex;have aa:=t.c35;have R:=t.c36;have ai:=J.lm.free 35;have aj:=J.lm.free 36;clear J P O A HM N u0 K1 K2 hd f j;have LR:=Qe<|Qe4 r dk dk w2
     rw [ae.u] at LR;dsimp only at LR;refine oQ ?_;intro HX HT;clear x o t ae;dsimp only at aa R;go_wp2_with fail;refine Calls.mono LR.u ?_;rintro e w3 ⟨rfl,rfl⟩;go_wp2_with fail;exact bodyPost_ret (v:=.tuple #[.func (Fn.func 184) #[.pointer (some ⟨q,0,none⟩)] #[],.nilIface]) kg rfl (Qz.ok rfl (HX.u.at eQ 13 dk (fun _ _=>⟨by have:=HS.u;show 12<=c.st;omega,by have:=HS.u;show c.st<=15;omega⟩)) HT.u)
 ·rw [if_neg au]
  have Z:∃dd:Int,(dd=2\/dd=3)/\(if k=2 then (.inr (2,c):IC⊕(Int×IC)) else .inr (3,c))=.inr (dd,c)/\dm (Calls prog 180 #[.pointer (some ⟨q,0,none⟩),.pointer (some ⟨S,0,none⟩)] w.drew fun e w'=>e=.returned (.tuple #[.int .i64 0,flt dd])/\Below w.drew.heap.size w.drew w'):=oR;obtain ⟨dd,_,G,A⟩:=Z;rw [G];clear aq Q G H au;unfold flt at A;go_enter func152,ntmps152;go_upto_region 1 with fail;go_region_held3 (fun w'=>w'.cell? ⟨q,34,none⟩=some (.pointer (some ⟨u,0,none⟩))/\w'.cell? ⟨u,0,none⟩=some (.pointer (some ⟨S,0,none⟩))/\q<w'.heap.size/\u<w'.heap.size)
   (first|(with_reducible assumption)|(go_keep;done)|(exact ⟨dC,dC,dC,dC⟩))
   ((go_at_call 180;refine Calls.mono A.u ?_;rintro e w2 ⟨rfl,hb⟩;have K:w2.cell? ⟨q,34,none⟩=some (.pointer (some ⟨u,0,none⟩))/\w2.cell? ⟨u,0,none⟩=some (.pointer (some ⟨S,0,none⟩))/\q<w2.heap.size/\u<w2.heap.size:=⟨(hb.cell (p:=⟨q,34,none⟩) y).trans N,(hb.cell (p:=⟨u,0,none⟩) X).trans u0,Nat.lt_of_lt_of_le y hb.size,Nat.lt_of_lt_of_le X hb.size⟩;obtain ⟨K1,K2,K3,K4⟩:=K))
  have I:=Qe<|f.u.below hb
  have al:=Qe<|j.u.trans (hb.mono (show B<=w.drew.heap.size from ke))
  clear hb A HM N u0 K1 K2 hd f j;go_wp2_with fail;exact bodyPost_ret (v:=.tuple #[.nilFunc,flt dd]) kf rfl (Qz.no I.u al.u)
end
section
variable {KH : Nat → Option Obj}
attribute [local go_sem ↓] Go.wp_at_zero Go.wp_at_succ
set_option linter.unusedVariables false
theorem Qig(q p hB:Nat)(zs:List Int)(i n:Nat)(w:World)(hm:w.cell? ⟨q,0,none⟩=some (.pointer (some ⟨p,0,none⟩)))(h:Rd w p hB zs i)(h8:i%8=0)(hzl:zs.length<=65536)(hn:i+8*n<=8*zs.length):
  Calls prog 190 #[.pointer (some ⟨q,0,none⟩),.int .i64 (n:Nat)] w fun e w'=>∃bo bc,e=.returned (.tuple #[.slice bo n bc,.nilIface])/\Qah w.heap.size w' bo bc ((zs.drop (i/8)).take n)/\Rd w' p hB zs (i+8*n)/\w.grownBy w' (some p):=by
 have V:=Rd.vld h.le hzl;obtain ⟨hl,an,X,G,E,y,I,hb⟩:=h;rw [h8] at E V;have ai:(zs.drop (i/8)).length=zs.length-i/8:=List.length_drop;have BY:=Qe<|QlN p X G (zs.drop (i/8)) (i:Int) n w E y hb.2 I V dk (decide_eq_true dk)
 have HX:dm (∀w',Src w' p (.slice (Qa2 X G n) ((zs.drop (i/8)).length-n) (G-n)) 0 ((i:Int)+8*(n:Int))->w.grownBy w' (some p)->Rd w' p hB zs (i+8*n)):=by
  intro w' J h2;refine Rd.moved (n:=8*n) hn ?_ y I an hb h2;rw [h8,show ((((0:Nat):Int)+((8*n:Nat):Int))/8).toNat=n from dk,show (((0:Nat):Int)+((8*n:Nat):Int))%8=0 from dk,show (i:Int)+((8*n:Nat):Int)=(i:Int)+8*(n:Int) from dk];exact J
 generalize (zs.drop (i/8)).length=Z at*;clear E y I V hb an;go_enter func190,ntmps190;go_wp2_with fail;refine Calls.mono BY.u ?_;rintro e w1 ⟨bo,bc,rfl,J,h2,h3⟩;have x:=Qe J;have l:=Qe<|HX.u w1 h2 h3
 have H3:=Qe h3;clear J h2 h3 BY HX;go_wp2_with fail;exact bodyPost_ret (v:=.tuple #[.slice bo n bc,.nilIface]) (by simp [results,results190,go_sem]) rfl ⟨bo,bc,rfl,x.u,l.u,H3.u⟩
theorem Qny(q p hB:Nat)(zs:List Int)(i n:Nat)(w:World)(hm:w.cell? ⟨q,0,none⟩=some (.pointer (some ⟨p,0,none⟩)))(h:Rd w p hB zs i)(h8:i%8=0)(hzl:zs.length<=65536)(hn1:1<=n)(hn:i+8*n<=8*zs.length):
  Calls prog 190 #[.pointer (some ⟨q,0,none⟩),.int .i64 (n:Nat)] w fun e w'=>∃bo bc,e=.returned (.tuple #[.slice bo n bc,.nilIface])/\Qah w.heap.size w' bo bc ((zs.drop (i/8)).take n)/\Rd w' p hB zs (i+8*n)/\w.grownBy w' (some p):=
 Qig q p hB zs i n w hm h h8 hzl hn
theorem Qlf(q p hB:Nat)(zs:List Int)(i n:Nat)(w:World)(hm:w.cell? ⟨q,0,none⟩=some (.pointer (some ⟨p,0,none⟩)))(h:Rd w p hB zs i)(h8:i%8=0)(hzl:zs.length<=65536)(hn:¬i+8*n<=8*zs.length):
  Calls prog 190 #[.pointer (some ⟨q,0,none⟩),.int .i64 (n:Nat)] w fun e w'=>e=.returned (.tuple #[.slice none 0 0,flt 2])/\Below w.heap.size w w':=by
 have V:=Rd.vld h.le hzl;obtain ⟨hl,an,X,G,E,y,I,hb⟩:=h;rw [h8] at E V;have ai:(zs.drop (i/8)).length=zs.length-i/8:=List.length_drop;have BY:=Qe<|Qn7 p X (zs.drop (i/8)).length G 0 (i:Int) (n:Int) w E V (.inr (.inr (.inl ⟨rfl,dk,dk⟩)))
 clear E y I V hb an;go_enter func190,ntmps190;go_wp2_with fail;refine Calls.mono BY.u ?_;rintro e w1 ⟨rfl,aj⟩;have x:=Qe aj;clear aj BY;go_wp2_with fail;exact bodyPost_ret (v:=.tuple #[.slice none 0 0,flt 2]) (by simp [results,results190,go_sem,flt]) rfl ⟨rfl,x.u⟩
def stN(zs:List Int)(c:IC):Nat:=max 1 (min (min c.stored (zs.length-c.lc.i/8)) (100000-c.u.length))
def Qw(s:Nat)(zs:List Int)(c:IC):IC⊕(Int×IC):=
 if c.stored=0 then .inl {c with st:=8}
 else if c.lc.i+8*stN zs c<=8*zs.length then
  if 100000<c.u.length+stN zs c then .inr (6,{c with stored:=c.stored-stN zs c,lc:={c.lc with i:=c.lc.i+8*stN zs c}})
  else .inl (Qap s {c with stored:=c.stored-stN zs c,lc:={c.lc with i:=c.lc.i+8*stN zs c}} ((zs.drop (c.lc.i/8)).take (stN zs c)))
 else .inr (2,c)
theorem Qe1(q p hB g s B:Nat)(zs:List Int)(aft:Value)(c:IC)(w:World)(hM:Q2 KH q p hB g s B zs aft w c)(hs:c.st=10)(h8:c.lc.i%8=0)(hst:c.stored<=65535)(hol:c.u.length<=100000)(hz:Qh zs)(hzl:zs.length<=65536):
  Calls prog 176 #[.pointer (some ⟨q,0,none⟩)] w fun e w'=>Qz KH q p hB g s B zs aft (Qw s zs c) e w w':=by
 have y:=hM.lt;have HM:=Qe hM;obtain ⟨T,d,_⟩:=hM.ex;have G:=d.c32;have D:=Qe (fun ao n cap k e1 e2=>(d.at30 ao n cap k e1 e2).1);have ah:dm (g<w.heap.size):=by obtain ⟨W,p,c,J,_⟩:=d.rg;exact J.lt
 by_cases H:c.stored=0
 ·rw [H] at G
  have HF:dm (Qz KH q p hB g s B zs aft (Qw s zs c) (.returned (.tuple #[.func (Fn.func 182) #[.pointer (some ⟨q,0,none⟩)] #[],.nilIface])) w w):=by
   show Qz _ _ _ _ _ _ _ _ _ _ _ _ _;unfold Qw;rw [if_pos H];exact Qz.ok rfl (hM.at dk 8 dk (fun h _=>dk)) (Below.refl _ _)
  clear hM d H hs HM;go_enter func176,ntmps176;go_wp2_with fail;exact bodyPost_ret (v:=.tuple #[.func (Fn.func 182) #[.pointer (some ⟨q,0,none⟩)] #[],.nilIface]) oU rfl HF.u
 ·have ab:((c.stored:Int) == 0)=false:=du
  refine fS ?_;intro hd a f j;have HS:=Qe hs;have q0:=hM.lm.c0;obtain ⟨oo,X,l,af,_⟩:=d.o30;obtain ⟨pa,pc,p0,p1,Z,_⟩:=hM.lm.rd.seen;have ar:=hM.lm.rd.le;obtain ⟨m,hm⟩:=dt (stN zs c);obtain ⟨C,R⟩:=dt (zs.length-c.lc.i/8);rw [R] at p0;obtain ⟨N,hN⟩:=dt c.u.length;rw [hN] at l;have ak:m=max 1 (min (min c.stored C) (100000-N)):=by rw [<-hm,<-R,<-hN];rfl
  obtain ⟨mm,K⟩:∃mm:Int,min (min (c.stored:Int) (C:Int)) (100000-(N:Int))=mm:=⟨_,rfl⟩;have S:max 1 mm=(m:Int):=dk;have aa:m<=C->((zs.drop (c.lc.i/8)).take m).length=m:=fun h=>kh
  have L:1<=m:=dk;have Y:m<=100000:=dk;have I:=Qe hm;have ae:=Qe ak;have b:=Qe<|And.intro R hN
  clear hs d af Z K S ak hm R hN;have bS:N<=100000:=by have:=b.u;omega
  have bu:C<=65536:=by have:=b.u;omega
  have aj:m<=c.stored:=by have:=ae.u;omega
  go_enter func176,ntmps176;go_upto_region 3 with fail;go_cut [4] from 14 to 36 (fun v wx=>v=.int .i64 (m:Nat)/\wx=w.drew)
  case first=>
   go_region
   all_goals go_wp2_with fail
   all_goals go_meet
   all_goals exact ⟨congrArg (Value.int .i64) (by have:=ae.u;omega),rfl⟩
  case rest=>
  obtain ⟨rfl,b5⟩:=hcut;rw [b5];clear b5 q0 p0 p1 l;have dq:q<w.drew.heap.size:=y;by_cases M:c.lc.i+8*m<=8*zs.length
  ·have ai:m<=C:=by have:=b.u;omega
   have r:=Qe<|aa ai
   have F:=Qe<|Qny q p hB zs c.lc.i m w.drew a.lm.c0 a.lm.rd h8 hzl L M
   clear hM a aa;by_cases h6:100000<c.u.length+m
   ·go_wp2_with fail
    refine Calls.mono F.u ?_;rintro e w1 ⟨Q,bc,rfl,A,P,O⟩;refine oV ?_;intro J h2;obtain ⟨V,t,_⟩:=J.ex;refine oW ?_;intro G bj ag u;have o:=A.grown ag (fun k e e2=>by
     cases Q with
     | none=>cases e2
     | some ad=>
      have U:=(u ad rfl).1;simp [Qt] at e2;simp at e;omega)
    have TE:=Qe (Qd3 q p hB g s B zs aft _ Q bc ((zs.drop (c.lc.i/8)).take m) _ h2 eQ (show c.u.length<=100000 from hol) o.row (fun e=>⟨by have:=o.bare e;have:=o.fits;omega,o.bare e⟩) o.fits o.most (by rw [r.u];omega) (fun ad e=>by
     have U:=u ad e;have h6:q<w.drew.heap.size:=y;have h7:g<w.drew.heap.size:=ah.u;refine ⟨dk,dk,fun ao n cap e1 e2=>?_⟩;have h8:=D.u ao n cap _ (by
      rw [World.cell?_setCell_other _ _ _ _ dr,QdG O y HM.u.lm.ne 30] at e1;exact e1) e2
     have h9:ad.block<w.drew.heap.size:=h8;omega))
    rw [r.u] at TE;have z:=Qe<|(j.u.trans (f.u.bel O)).trans (J.belq 32 (.int .i64 ((c.stored:Int)-(m:Int))))
    dsimp only at G;clear J h2 t P O A o u ag F j f HM;go_wp2_with fail;refine Calls.mono TE.u ?_;rintro e w4 hP;unfold Qdw at hP;rw [r.u] at hP;obtain ⟨rfl,hX,hT⟩:=hP.2 (show 100000<c.u.length+m from h6);have HF:dm (Qz KH q p hB g s B zs aft (Qw s zs c) (.returned (.tuple #[.func (Fn.func 176) #[.pointer (some ⟨q,0,none⟩)] #[],flt 6])) w w4):=by
     show Qz _ _ _ _ _ _ _ _ _ _ _ _ _;unfold Qw;rw [if_neg H,I.u,if_pos M,if_pos h6];exact Qz.no hX (z.u.trans hT)
    clear hP hX hT TE z;go_wp2_with fail;exact bodyPost_ret (v:=.tuple #[.func (Fn.func 176) #[.pointer (some ⟨q,0,none⟩)] #[],flt 6]) oX rfl HF.u
   ·go_wp2_with fail
    refine Calls.mono F.u ?_;rintro e w1 ⟨Q,bc,rfl,A,P,O⟩;refine oV ?_;intro J h2;obtain ⟨V,t,_⟩:=J.ex;refine oW ?_;intro G bj ag u;have o:=A.grown ag (fun k e e2=>by
     cases Q with
     | none=>cases e2
     | some ad=>
      have U:=(u ad rfl).1;simp [Qt] at e2;simp at e;omega)
    have TE:=Qe (Qd3 q p hB g s B zs aft _ Q bc ((zs.drop (c.lc.i/8)).take m) _ h2 eQ (show c.u.length<=100000 from hol) o.row (fun e=>⟨by have:=o.bare e;have:=o.fits;omega,o.bare e⟩) o.fits o.most (by rw [r.u];omega) (fun ad e=>by
     have U:=u ad e;have h6:q<w.drew.heap.size:=y;have h7:g<w.drew.heap.size:=ah.u;refine ⟨dk,dk,fun ao n cap e1 e2=>?_⟩;have h8:=D.u ao n cap _ (by
      rw [World.cell?_setCell_other _ _ _ _ dr,QdG O y HM.u.lm.ne 30] at e1;exact e1) e2
     have h9:ad.block<w.drew.heap.size:=h8;omega))
    rw [r.u] at TE;have z:=Qe<|(j.u.trans (f.u.bel O)).trans (J.belq 32 (.int .i64 ((c.stored:Int)-(m:Int))))
    dsimp only at G;clear J h2 t P O A o u ag F j f HM;go_wp2_with fail;refine Calls.mono TE.u ?_;rintro e w4 hP;unfold Qdw at hP;rw [r.u] at hP;obtain ⟨rfl,hX,hT⟩:=hP.1 (show c.u.length+m<=100000 by omega);have HF:dm (Qz KH q p hB g s B zs aft (Qw s zs c) (.returned (.tuple #[.func (Fn.func 176) #[.pointer (some ⟨q,0,none⟩)] #[],.nilIface])) w w4):=by
     show Qz _ _ _ _ _ _ _ _ _ _ _ _ _;unfold Qw;rw [if_neg H,I.u,if_pos M,if_neg h6];exact Qz.ok oT hX (z.u.trans hT)
    clear hP hX hT TE z;go_wp2_with fail;exact bodyPost_ret (v:=.tuple #[.func (Fn.func 176) #[.pointer (some ⟨q,0,none⟩)] #[],.nilIface]) oU rfl HF.u
  ·have F:=Qe<|Qlf q p hB zs c.lc.i m w.drew a.lm.c0 a.lm.rd h8 hzl M
   have E:=Qe hM.bs;clear hM a aa;unfold flt at F;go_wp2_with fail;refine Calls.mono F.u ?_;rintro e w1 ⟨rfl,hb⟩;have HF:dm (Qz KH q p hB g s B zs aft (Qw s zs c) (.returned (.tuple #[.nilFunc,flt 2])) w w1):=by
    show Qz _ _ _ _ _ _ _ _ _ _ _ _ _;unfold Qw;rw [if_neg H,I.u,if_neg M];exact Qz.no (f.u.below hb) (j.u.trans (hb.mono (show B<=w.drew.heap.size from ke)))
   clear hb F HM hd f j G;go_wp2_with fail;exact bodyPost_ret (v:=.tuple #[.nilFunc,flt 2]) oX rfl HF.u
end
section
variable{q p hB g s B u lo hi:Nat}{aft:Value}{w:World}{c:IC}
variable {KH : Nat → Option Obj}
attribute [local go_sem ↓] Go.wp_at_zero Go.wp_at_succ
set_option linter.unusedVariables false
theorem Qb4(ao bo:Option Addr)(ca cb:Nat)(ls ds:List Int)(w:World)(ha:Qv w ao ls)(hb:Qv w bo ds)(hl:ls.length<=1048576)(hd:ds.length<=1048576):
  Calls prog 150 #[.slice ao ls.length ca,.slice bo ds.length cb] w fun e w'=>∃u,e=.returned (.pointer (some ⟨u,0,none⟩))/\BC w' u w.heap.size w'.heap.size ls ds/\Below w.heap.size w w':=by
 have x:=Qe<|QbW ao ca ls w ha hl
 have l:=Qe (fun W (hW:Below w.heap.size w W)=>QbW bo cb ds W (hb.below hW) hd);clear ha hb;go_enter func150,ntmps150;go_wp2_with fail;refine Calls.mono x.u ?_;rintro e w1 ⟨⟨co,cc,rfl,t⟩,aj⟩;have N1:=Qe<|Qef ls co cc w1 t.reads
 have L1:=Qe aj;clear t aj x;go_wp2_with fail;refine Calls.mono N1.u ?_;rintro e w2 ⟨S,Sl,ml,Ll,rfl,j,z,ah⟩;have L2:=Qe<|L1.u.trans (ah.mono L1.u.size)
 have n:=Qe z;have al:dm (w.heap.size<=S):=Nat.le_trans L1.u.size j;clear z ah j N1;go_wp2_with fail;refine Calls.mono (l.u w2 L2.u) ?_;rintro e w3 ⟨⟨b,f,rfl,m⟩,r⟩;have N3:=Qe<|Qef ds b f w3 m.reads
 have D:=Qe<|L2.u.trans (r.mono L2.u.size)
 have T3:=Qe<|n.u.below r
 clear m r l n;go_wp2_with fail;refine Calls.mono N3.u ?_;rintro e w4 ⟨td,Sd,md,Ld,rfl,a,d,T⟩;have L4:=Qe<|D.u.trans (T.mono D.u.size)
 have g:=Qe<|T3.u.below T
 have c:=Qe d;have N:dm (w.heap.size<=td):=Nat.le_trans D.u.size a;clear d T a N3 T3;have ba:Below w4.heap.size w4 (w4.alloc (.cells #[.pointer (some ⟨S,0,none⟩),.pointer (some ⟨td,0,none⟩)] 249)):=(Below.refl _ _).alloc (Nat.le_refl _) _;have B:=Qe<|L4.u.trans (ba.mono L4.u.size)
 have i:dm (BC (w4.alloc (.cells #[.pointer (some ⟨S,0,none⟩),.pointer (some ⟨td,0,none⟩)] 249)) w4.heap.size w.heap.size (w4.alloc (.cells #[.pointer (some ⟨S,0,none⟩),.pointer (some ⟨td,0,none⟩)] 249)).heap.size ls ds):=
  ⟨L4.u.size,dr,Nat.le_refl _,_,S,Sl,ml,Ll,td,Sd,md,Ld,rfl,fun _ _ _=>rfl,dF,dF,al.u,N.u,g.u.below ba,c.u.below ba⟩
 clear ba g c L1 L2 D L4;go_wp2_with fail;go_ret;exact ⟨_,rfl,i.u,B.u⟩
theorem QfS(w:World):Calls prog 177 #[] w fun e w'=>∃g cap,e=.returned (.slice (some ⟨g,0,none⟩) F32.length cap)/\Qv w' (some ⟨g,0,none⟩) F32/\Below w.heap.size w w':=by
 have ba:Below w.heap.size w (w.alloc (.cells #[.int .i64 5] 2)):=(Below.refl _ _).alloc (Nat.le_refl _) _;have HR:=Qe<|Qdf w.heap.size 0 1 32 5 (w.alloc (.cells #[.int .i64 5] 2)) (Qjp w 5 2) dn dn
 have HB:=Qe ba;have hl:F32.length=32:=dn;rw [hl];clear ba hl;go_enter func177,ntmps177;go_wp2_with fail;refine Calls.mono HR.u ?_;rintro e w1 ⟨rfl,a,hb⟩;have r:(w.alloc (.cells #[.int .i64 5] 2)).heap.size=w.heap.size+1:=dr;have R1:dm (Qv w1 (some ⟨w.heap.size+1,0,none⟩) F32):=by
  have:=a.row;rw [r] at this;exact this
 have L1:=Qe<|HB.u.trans (hb.mono HB.u.size)
 clear a hb HR r;go_wp2_with fail;go_ret;exact ⟨_,_,rfl,R1.u,L1.u⟩
theorem Q2.made{zs:List Int}{w':World}(h:Q2 KH q p hB g s B zs aft w c)(hb:Below w.heap.size w w'):∃T',Qbn KH q p hB g s B T' aft w' c/\(∀v k,w'.cell? ⟨q,26,none⟩=some v->v.ownBlock=some k->¬T' k/\k≠g/\∀ao n cap,w'.cell? ⟨q,30,none⟩=some (.slice ao n cap)->Qt ao≠some k)/\∀k,w.heap.size<=k->k<w'.heap.size->T' k/\KH k=none:=by
 obtain ⟨T,P,A⟩:=h.ex;have hq:=h.lm.lt;have N:=h.lm.rd.lt;have K:=h.lm.hBlt;refine fi ?_;intro F;obtain ⟨g1,g2,g3,g4,g5,g6,g7⟩:=P.ne;have I:∀o,w'.cell? ⟨q,o,none⟩=w.cell? ⟨q,o,none⟩:=fun o=>hb.cell (p:=⟨q,o,none⟩) hq
 have hk:Qbn KH q p hB g s B T aft w' c:=P.keep hb.size (fun o _=>I o) (fun k hk=>hb.block k (P.tlt k hk)) (hb.block g F) (fun ao n cap k e1 e2=>hb.block k (P.at30 ao n cap k e1 e2).1);have a:∀k,k<w.heap.size->¬T k->¬(T k\/(w.heap.size<=k/\k<w'.heap.size)):=fun k J h2 h3=>by
  rcases h3 with h|h
  ·exact h2 h
  ·omega
 refine ⟨fun k=>T k\/(w.heap.size<=k/\k<w'.heap.size),?_,?_,fun k J h2=>⟨.inr ⟨J,h2⟩,by
  cases e:KH k with
  | none=>rfl
  | some o=>have:=(Array.getElem?_eq_some_iff.1 (P.kz k o e).2).1;omega⟩⟩
 ·refine {hk with ne:=⟨g1,g2,g3,a g F g4,a q hq g5,a p N g6,a hB K g7⟩,tlt:=?_,o30:=?_,c33:=⟨hk.c33.1,fun e=>?_⟩,c34:=⟨hk.c34.1,fun e1 e2=>?_⟩,kz:=fun k o e=>⟨.inl (hk.kz k o e).1,(hk.kz k o e).2⟩}
  ·intro k J
   rcases J with J|J
   ·exact hk.tlt k J
   ·exact J.2
  ·obtain ⟨ao,cap,J,h2,h4⟩:=hk.o30
   refine ⟨ao,cap,J,h2,fun k e=>⟨a k (P.at30 ao _ cap k ((I 30).symm.trans J) e).1 (h4 k e).1,(h4 k e).2⟩⟩
  ·obtain ⟨u,lo,hi,J,h2,h3⟩:=hk.c33.2 e
   exact o9
  ·obtain ⟨u,lo,hi,J,h2,h3⟩:=hk.c34.2 e1 e2
   exact o9
 ·intro v k e1 e2
  rw [I 26] at e1;rw [I 30];exact ⟨a k (h.lm.at26 v k e1 e2) (A v k e1 e2).1,(A v k e1 e2).2⟩
theorem Qbn.set34{T:Nat->Prop}(h:Qbn KH q p hB g s B T aft w c){ls ds:List Int}(hBC:BC w u lo hi ls ds)(hT:∀k,lo<=k->k<hi->T k/\KH k=none):Qbn KH q p hB g s B T aft (w.setCell ⟨q,34,none⟩ (.pointer (some ⟨u,0,none⟩))) {c with st:=12,ul:=ls,ud:=ds}:=by
 have O:=Qf w ⟨q,34,none⟩ (.pointer (some ⟨u,0,none⟩));have I:∀o,o≠34->(w.setCell ⟨q,34,none⟩ (.pointer (some ⟨u,0,none⟩))).cell? ⟨q,o,none⟩=w.cell? ⟨q,o,none⟩:=fun o ho=>World.cell?_setCell_other _ _ _ _ dB
 obtain ⟨g1,g2,g3,g4,g5,g6,g7⟩:=h.ne;have F:g<w.heap.size:=pb;have hb:∀k,k<w.heap.size->k≠q->(w.setCell ⟨q,34,none⟩ (.pointer (some ⟨u,0,none⟩))).heap[k]?=w.heap[k]?:=fun k hk hne=>O.block k hk fj
 have a:∀k,T k->(w.setCell ⟨q,34,none⟩ (.pointer (some ⟨u,0,none⟩))).heap[k]?=w.heap[k]?:=fun k hk=>hb k (h.tlt k hk) (fun e=>g5 (e▸hk))
 obtain ⟨b,f⟩:=h.c34.1;have d:=World.cell?_setCell_same w ⟨q,34,none⟩ (.pointer (some ⟨u,0,none⟩)) f;refine ⟨h.ne,fun k hk=>Nat.lt_of_lt_of_le (h.tlt k hk) O.size,h.s0,h.rg.keep (hb g F g1),(I 29 dk).trans h.c29,?_,(I 31 dk).trans h.c31,(I 32 dk).trans h.c32,⟨fun e=>(I 33 dk).trans (h.c33.1 e),fun e=>?_⟩,⟨⟨_,d⟩,fun _ _=>⟨u,lo,hi,d,hBC.keep (fun k k1 k2=>a k (hT k k1 k2).1) O.size,hT⟩⟩,(I 35 dk).trans h.c35,(I 36 dk).trans h.c36,(I 37 dk).trans h.c37,(I 38 dk).trans h.c38,fun k o e=>⟨(h.kz k o e).1,(a k (h.kz k o e).1).trans (h.kz k o e).2⟩⟩
 ·exact pd
 ·obtain ⟨j,i,a8,J,h2,h3⟩:=h.c33.2 e
  exact ⟨j,i,a8,(I 33 dk).trans J,h2.keep (fun k k1 k2=>a k (h3 k k1 k2).1) O.size,h3⟩
theorem Qbn.set33{T:Nat->Prop}(h:Qbn KH q p hB g s B T aft w c)(hs:¬(12<=c.st/\c.st<=15))(h33:∃old,w.cell? ⟨q,33,none⟩=some old)(hBC:BC w u lo hi F288 F32)(hT:∀k,lo<=k->k<hi->T k/\KH k=none):Qbn KH q p hB g s B T aft (w.setCell ⟨q,33,none⟩ (.pointer (some ⟨u,0,none⟩))) {c with fx:=true}:=by
 have O:=Qf w ⟨q,33,none⟩ (.pointer (some ⟨u,0,none⟩));have I:∀o,o≠33->(w.setCell ⟨q,33,none⟩ (.pointer (some ⟨u,0,none⟩))).cell? ⟨q,o,none⟩=w.cell? ⟨q,o,none⟩:=fun o ho=>World.cell?_setCell_other _ _ _ _ dB
 obtain ⟨g1,g2,g3,g4,g5,g6,g7⟩:=h.ne;have F:g<w.heap.size:=pb;have hb:∀k,k<w.heap.size->k≠q->(w.setCell ⟨q,33,none⟩ (.pointer (some ⟨u,0,none⟩))).heap[k]?=w.heap[k]?:=fun k hk hne=>O.block k hk fj
 have a:∀k,T k->(w.setCell ⟨q,33,none⟩ (.pointer (some ⟨u,0,none⟩))).heap[k]?=w.heap[k]?:=fun k hk=>hb k (h.tlt k hk) (fun e=>g5 (e▸hk))
 obtain ⟨old,h33⟩:=h33;have b:=World.cell?_setCell_same w ⟨q,33,none⟩ (.pointer (some ⟨u,0,none⟩)) h33;refine ⟨h.ne,fun k hk=>Nat.lt_of_lt_of_le (h.tlt k hk) O.size,h.s0,h.rg.keep (hb g F g1),(I 29 dk).trans h.c29,?_,(I 31 dk).trans h.c31,(I 32 dk).trans h.c32,⟨(fun e=>dx),fun _=>⟨u,lo,hi,b,hBC.keep (fun k k1 k2=>a k (hT k k1 k2).1) O.size,hT⟩⟩,⟨?_,fun e1 e2=>absurd ⟨e1,e2⟩ hs⟩,(I 35 dk).trans h.c35,(I 36 dk).trans h.c36,(I 37 dk).trans h.c37,(I 38 dk).trans h.c38,fun k o e=>⟨(h.kz k o e).1,(a k (h.kz k o e).1).trans (h.kz k o e).2⟩⟩
 ·exact pd
 ·obtain ⟨old,J⟩:=h.c34.1
  exact ⟨old,(I 34 dk).trans J⟩
def QP(c:IC):IC⊕(Int×IC):=.inl {c with st:=12,fx:=true,ul:=F288,ud:=F32}
theorem QrZ(w:World)(a:Addr):Sem.run prog (binOp BinOp.eql 74 (.pointer (some a)) (.pointer none)) w=.ok (.bool false) w:=by kernel_rfl
theorem Qrr(w:World):Sem.run prog (binOp BinOp.eql 74 (.pointer none) (.pointer none)) w=.ok (.bool true) w:=by kernel_rfl
theorem Qfh(q p hB g s B:Nat)(zs:List Int)(aft:Value)(c:IC)(w:World)(hM:Q2 KH q p hB g s B zs aft w c)(hs:c.st=11):
  Calls prog 148 #[.pointer (some ⟨q,0,none⟩)] w fun e w'=>Qz KH q p hB g s B zs aft (QP c) e w w':=by
 have y:=hM.lt;have HM:=Qe hM;obtain ⟨L,i,H,K⟩:=hM.bs;obtain ⟨T,P,A⟩:=hM.ex;have x:c.lc.st=0:=hM.ls.2 dk;cases hfx:c.fx with
 | true=>
  obtain ⟨u,lo,hi,R,C,U⟩:=P.c33.2 hfx;obtain ⟨b,aa⟩:=P.c34.1;have S:=hM.lm.free 34;have J:=P.set34 C U;have ag:=Qf w ⟨q,34,none⟩ (.pointer (some ⟨u,0,none⟩));have I:∀o,o≠34->(w.setCell ⟨q,34,none⟩ (.pointer (some ⟨u,0,none⟩))).cell? ⟨q,o,none⟩=w.cell? ⟨q,o,none⟩:=fun o ho=>World.cell?_setCell_other _ _ _ _ dB
  have HF:dm (Qz KH q p hB g s B zs aft (QP c) (.returned (.tuple #[.func (Fn.func 152) #[.pointer (some ⟨q,0,none⟩)] #[],.nilIface])) w (w.setCell ⟨q,34,none⟩ (.pointer (some ⟨u,0,none⟩)))):=by
   show Qz _ _ _ _ _ _ _ _ _ _ _ _ _;unfold QP;refine Qz.ok rfl ⟨hM.lm.set29 34 dk _,⟨fun e=>fk,fun _=>x⟩,hM.bs,T,?_,?_⟩ ((Below.refl B w).grown ag dk (fun k e=>dJ))
   ·rw [<-hfx]
    exact J
   ·exact pe
  have l:=QrZ;clear hM P J C U ag I A hfx HM;go_enter func148,ntmps148;exact pf
 | false=>
  have R:=P.c33.1 hfx;have l:=Qrr;have O:=Qe hfx;have HS:=Qe hs;have X:=Qe<|QcX w
  clear hM P A hfx hs;go_enter func148,ntmps148;go_wp2_with fail;refine Calls.mono X.u ?_;rintro e w1 ⟨g1,z,rfl,a0,aj⟩;have R1:=Qe<|Qv.owned a0
  have L1:=Qe aj;have FD:=Qe<|QfS w1
  clear a0 aj X;obtain ⟨Z,f⟩:=dt F288.length;have t:=Qe f;rw [f];clear f;go_wp2_with fail;refine Calls.mono FD.u ?_;rintro e w2 ⟨g2,ar,rfl,Q,ah⟩;have R2:=Qe<|R1.u.below ah
  have L2:=Qe<|L1.u.trans (ah.mono L1.u.size)
  have N:=Qe<|Qb4 (some ⟨g1,0,none⟩) (some ⟨g2,0,none⟩) z ar F288 F32 w2 R2.u Q hH dn
  rw [t.u] at N;clear Q ah FD R1 L1 R2;obtain ⟨n2,d⟩:=dt F32.length;rw [d] at N ⊢;clear d;go_wp2_with fail;refine Calls.mono N.u ?_;rintro e w3 ⟨u,rfl,C,r⟩;have D:=L2.u.trans<|r.mono L2.u.size
  have j:=HM.u.below D;obtain ⟨T3,m,A,U⟩:=HM.u.made D;have a:∀k,w2.heap.size<=k->k<w3.heap.size->T3 k/\KH k=none:=fun k k1 k2=>U k (by have:=L2.u.size;omega) k2
  have W:w3.cell? ⟨q,33,none⟩=some (.pointer none):=m.c33.1 O.u;have M:=m.set33 (by have:=HS.u;omega) ⟨_,W⟩ C a;have ab:=j.lm.free 33;have S:=j.lm.free 34;have E:=j.lt;obtain ⟨b,V⟩:=m.c34.1;have F:=Qf w3 ⟨q,33,none⟩ (.pointer (some ⟨u,0,none⟩));have h:BC (w3.setCell ⟨q,33,none⟩ (.pointer (some ⟨u,0,none⟩))) u w2.heap.size w3.heap.size F288 F32:=C.keep (fun k k1 k2=>F.block k k2 (by simp;have:=L2.u.size;omega)) F.size;have G:=M.set34 h a;have Y:=Qf (w3.setCell ⟨q,33,none⟩ (.pointer (some ⟨u,0,none⟩))) ⟨q,34,none⟩ (.pointer (some ⟨u,0,none⟩));have I:∀o,o≠33->o≠34->((w3.setCell ⟨q,33,none⟩ (.pointer (some ⟨u,0,none⟩))).setCell ⟨q,34,none⟩ (.pointer (some ⟨u,0,none⟩))).cell? ⟨q,o,none⟩=w3.cell? ⟨q,o,none⟩:=fun o h1 h2=>(World.cell?_setCell_other _ _ _ _ dB).trans (World.cell?_setCell_other _ _ _ _ dB)
  have HF:dm (Qz KH q p hB g s B zs aft (QP c) (.returned (.tuple #[.func (Fn.func 152) #[.pointer (some ⟨q,0,none⟩)] #[],.nilIface])) w ((w3.setCell ⟨q,33,none⟩ (.pointer (some ⟨u,0,none⟩))).setCell ⟨q,34,none⟩ (.pointer (some ⟨u,0,none⟩)))):=by
   show Qz _ _ _ _ _ _ _ _ _ _ _ _ _;unfold QP;have z4:=F.size;refine Qz.ok rfl ⟨(j.lm.set29 33 dk _).set29 34 dk _,⟨fun e=>fk,fun _=>x⟩,j.bs,T3,G,?_⟩ (((D.mono dk).grown F dk (fun k e=>dJ)).grown Y dk (fun k e=>dJ));intro v k e1 e2;rw [I 26 dk dk] at e1;rw [I 30 dk dk];exact A v k e1 e2
  clear j m A U a M G C h F Y I r D N HM;exact pf
def QU(c:IC):IC⊕(Int×IC):=.inl {c with st:=12,ul:=c.lc.lens.take (c.lc.f 2).toNat,ud:=c.lc.lens.drop (c.lc.f 2).toNat,lc:={c.lc with st:=0}}
theorem Qeg(q p hB g s B:Nat)(zs:List Int)(aft:Value)(c:IC)(w:World)(hM:Q2 KH q p hB g s B zs aft w c)(hs:c.st=6)(hW:QQ c.lc)(hlen:(c.lc.lens.length:Int)=c.lc.f 2+c.lc.f 3):
  Calls prog 106 #[.pointer (some ⟨q,0,none⟩)] w fun e w'=>Qz KH q p hB g s B zs aft (QU c) e w w':=by
 have y:=hM.lt;have HM:=Qe hM;obtain ⟨L,i,H,K⟩:=hM.bs;have x:c.lc.st=6:=by rw [hM.ls.1 dk,hs]
 have F:=hW.lit dk;have T:=hW.dist dk;obtain ⟨l,O⟩:∃l:Nat,c.lc.f 2=(l:Int):=⟨(c.lc.f 2).toNat,dk⟩;have t:=hM.lm.num 2 (.inl ⟨dk,dk⟩);rw [O] at t F hlen;obtain ⟨Bo,v,_,_,_,Z,d,R,_,_⟩:=hM.lm.own;obtain ⟨ga,ca,rfl,hO⟩:=QR.of R;obtain ⟨n,M⟩:=dt c.lc.lens.length;obtain ⟨Q,rfl,aF,ad,aT⟩:=hO.at dk;rw [M] at d hlen aT;have X:=Qe<|Qih q Q n ca l w d t dk aT dk
 have aA:=Qe<|hO.row.takeN l
 have aS:=Qe<|hO.row.dropN l
 have P:dm ((c.lc.lens.take l).length=l):=by show _=_;rw [List.length_take];omega
 have J:dm ((c.lc.lens.drop l).length=n-l):=by show _=_;rw [List.length_drop,M]
 have z:dm ((c.lc.f 2).toNat=l):=by show _=_;rw [O];omega
 have W:n<=600:=dk;have aL:l<=400:=dk;clear hM t d R hO hlen O x M F T hW hs;go_enter func106,ntmps106;go_wp2_with fail;refine Calls.mono X.u ?_;rintro e w1 ⟨rfl,aj⟩;have L1:=Qe aj;have N:=Qe<|Qb4 (some ⟨Q,0,none⟩) (some ⟨Q,l,none⟩) ca (ca-l) (c.lc.lens.take l) (c.lc.lens.drop l) w1 (aA.u.below aj) (aS.u.below aj) (by rw [P.u];omega) (by rw [J.u];omega)
 rw [P.u,J.u] at N;clear aj X aA aS P J;go_wp2_with fail;refine Calls.mono N.u ?_;rintro e w3 ⟨u,rfl,C,r⟩;have D:=L1.u.trans<|r.mono L1.u.size
 have j:=HM.u.below D;obtain ⟨T3,m,A,U⟩:=HM.u.made D;have a:∀k,w1.heap.size<=k->k<w3.heap.size->T3 k/\KH k=none:=fun k k1 k2=>U k (by have:=L1.u.size;omega) k2
 have S:=j.lm.free 34;have E:=j.lt;obtain ⟨b,V⟩:=m.c34.1;have G:=m.set34 C a;have Y:=Qf w3 ⟨q,34,none⟩ (.pointer (some ⟨u,0,none⟩));have I:∀o,o≠34->(w3.setCell ⟨q,34,none⟩ (.pointer (some ⟨u,0,none⟩))).cell? ⟨q,o,none⟩=w3.cell? ⟨q,o,none⟩:=fun o h2=>World.cell?_setCell_other _ _ _ _ dB
 have HF:dm (Qz KH q p hB g s B zs aft (QU c) (.returned (.tuple #[.func (Fn.func 152) #[.pointer (some ⟨q,0,none⟩)] #[],.nilIface])) w (w3.setCell ⟨q,34,none⟩ (.pointer (some ⟨u,0,none⟩)))):=by
  show Qz _ _ _ _ _ _ _ _ _ _ _ _ _;unfold QU;rw [z.u];refine Qz.ok rfl ⟨(j.lm.set29 34 dk _).at 0 (fun h=>dk) (fun h=>dk),⟨fun e=>fk,fun _=>rfl⟩,j.bs,T3,{G with},?_⟩ ((D.mono dk).grown Y dk (fun k e=>dJ));exact pe
 clear j m A U a G C Y I r D N HM;go_wp2_with fail;exact bodyPost_ret (v:=.tuple #[.func (Fn.func 152) #[.pointer (some ⟨q,0,none⟩)] #[],.nilIface]) (by simp [results,results106,go_sem]) rfl HF.u
end
end Go.Proofs.YtgginbpmebgkcaaGreatDoor
