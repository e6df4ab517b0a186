import Derived.Deep.QuietTactic
import Derived.Deep.RegionHeld3
import Derived.Deep.DrawnRows
import Derived.Deep.CutRange
import Derived.Laws.BitsAllLaws
import Derived.Test.YtgginbpmebgkcaaGreatDoorMAC
namespace Go.Proofs.YtgginbpmebgkcaaGreatDoor
open Go.RowKit Go.Proofs.Tryz
attribute [local go_sem ↓] Go.wp_at_zero Go.wp_at_succ
set_option linter.unusedVariables false
set_option maxRecDepth 100000
set_option maxHeartbeats 25600000
section
variable{zs:List Int}
theorem VW{p:Prop}(h:p):dm p:=h
def wi(x m:Int):Bool:=decide (0<=x/\x<=m)
def hfl(f fl:Int):Bool:=bits BinOp.and IntKind.i64 f fl != 0
theorem Qru(f:Int)(h0:0<=f)(h1:f<=31):hfl f 4=decide (f/4%2=1):=by
 obtain ⟨n,rfl⟩:∃n:Nat,f=n:=⟨f.toNat,dk⟩;exact (by decide+kernel:∀n:Nat,n<32->hfl (n:Int) 4=decide ((n:Int)/4%2=1)) n dk
theorem QrB(f:Int)(h0:0<=f)(h1:f<=31):hfl f 8=decide (f/8%2=1):=by
 obtain ⟨n,rfl⟩:∃n:Nat,f=n:=⟨f.toNat,dk⟩;exact (by decide+kernel:∀n:Nat,n<32->hfl (n:Int) 8=decide ((n:Int)/8%2=1)) n dk
theorem Qrd(f:Int)(h0:0<=f)(h1:f<=31):hfl f 16=decide (f/16%2=1):=by
 obtain ⟨n,rfl⟩:∃n:Nat,f=n:=⟨f.toNat,dk⟩;exact (by decide+kernel:∀n:Nat,n<32->hfl (n:Int) 16=decide ((n:Int)/16%2=1)) n dk
def mhv(f fl:Int)(n:Nat):Bool:=hfl f fl || decide (n=0)
def haz(zs:List Int):Bool:=decide ((0:Int)∈zs)
theorem Qlm{k:Nat}(hk:k<zs.length)(h:zs.getD k 0=0):haz zs=true:=by
 refine decide_eq_true ?_;rw [<-h];simp [List.getD,hk]
theorem Qn0(h:∀j,j<zs.length->zs.getD j 0≠0):haz zs=false:=by
 refine decide_eq_false ?_;intro hm;obtain ⟨j,hj,e⟩:=List.getElem_of_mem hm;refine h j hj ?_;simp [List.getD,hj,e]
theorem QaL(x m:Int)(w:World):Calls prog 22 #[.int .i64 x,.int .i64 m] w fun e w'=>e=.returned (.bool (wi x m))/\w'=w:=by
 by_cases c1:0<=x
 ·by_cases c2:x<=m
  ·have t:dm (true=wi x m):=(decide_eq_true ⟨c1,c2⟩).symm
   exact rh
  ·exact ri
 ·exact ri
theorem QB(f mt xf os sz:Int)(ae an ac:Option Addr)(ne ce nn cn nc cc:Nat)(fl:Int)(w:World):
  Calls prog 28 #[.agg #[.int .i64 f,.int .i64 mt,.int .i64 xf,.int .i64 os,.slice ae ne ce,.slice an nn cn,.slice ac nc cc,.int .i64 sz],.int .i64 fl] w fun e w'=>e=.returned (.bool (hfl f fl))/\Below w.heap.size w w':=by
 go_enter func28,ntmps28;go_wp2;go_ret;exact ⟨rfl,(Below.refl _ _).alloc (Nat.le_refl _) _⟩
theorem Qc3(f mt xf os sz:Int)(ae an ac:Option Addr)(ne ce nn cn nc cc:Nat)(fl:Int)(al:Option Addr)(nl cl:Nat)(w:World):
  Calls prog 61 #[.agg #[.int .i64 f,.int .i64 mt,.int .i64 xf,.int .i64 os,.slice ae ne ce,.slice an nn cn,.slice ac nc cc,.int .i64 sz],.int .i64 fl,.slice al nl cl] w fun e w'=>e=.returned (.bool (mhv f fl nl))/\Below w.heap.size w w':=by
 cases hf:hfl f fl with
 | true=>
  have t:dm (true=mhv f fl nl):=by show _=_;rw [mhv,hf];rfl
  go_enter func61,ntmps61;go_wp2_with fail;refine (QB f mt xf os sz ae an ac ne ce nn cn nc cc fl _).mono ?_;rintro e w1 ⟨rfl,aj⟩;rw [hf];exact rj
 | false=>
  have t:dm (decide (nl=0)=mhv f fl nl):=by show _=_;rw [mhv,hf];rfl
  go_enter func61,ntmps61;go_wp2_with fail;refine (QB f mt xf os sz ae an ac ne ce nn cn nc cc fl _).mono ?_;rintro e w1 ⟨rfl,aj⟩;rw [hf];by_cases M:nl=0
  ·subst M
   exact rj
  ·have x:((nl:Int) == 0)=false:=by simp [M]
   have ax:dm (false=mhv f fl nl):=by show _=_;rw [<-t.u];simp [M]
   clear t M;go_wp2_with fail;go_ret;exact ⟨QaF ax.u,((Below.refl _ _).alloc (Nat.le_refl _) _).trans (aj.mono dr)⟩
theorem Qky(ao:Option Addr)(cap:Nat)(zs:List Int)(w:World)(hr:Q1 w ao zs)(hn:zs.length<=140737488355328):
  Calls prog 98 #[.slice ao zs.length cap,.int .u8 0] w fun e w'=>∃k:Int,e=.returned (.int .i64 k)/\decide (0<=k)=haz zs/\∃q,w'=w.drewN q:=by
 go_enter func98,ntmps98;go_wp2_with fail;go_loopw [8] (fun i wr=>∃k:Nat,k<=zs.length/\i=.int .i64 k/\(∃q,wr=w.drewN q)/\dm (∀j,j<k->zs.getD j 0≠0)) (fun i _=>zs.length-(intOf i).toNat)
 case atStart=>exact ⟨0,Nat.zero_le _,rfl,⟨0,rfl⟩,fun j hj=>absurd hj dk⟩
 case round=>
  obtain ⟨k,hk,rfl,⟨q,rfl⟩,HE⟩:=hrel;by_cases ab:k<zs.length
  ·obtain ⟨b1,o1,rfl,m⟩:=hr.at ab
   have J:=m k ab;clear m hr;by_cases he:zs.getD k 0=0
   ·have HF:=VW<|Qlm ab he
    rw [he] at J;clear he HE;go_wp2_with fail;go_ret;refine ⟨_,rfl,?_,?_⟩
    ·rw [HF.u];exact decide_eq_true dk
    ·exact ⟨_,rfl⟩
   ·have HN:dm (∀j,j<k+1->zs.getD j 0≠0):=rk
    generalize zs.getD k 0=x at*;have hx:(0 == x)=false:=by
     rw [beq_eq_false_iff_ne];omega
    exact rl
  ·have e:k=zs.length:=dk
   have HF:dm (haz zs=false):=Qn0 (fun j hj=>HE.u j dk);clear HE;go_wp2_with fail;go_ret;exact ⟨-1,rfl,by rw [HF.u];decide,q,rfl⟩
theorem Qdd(ao:Option Addr)(cap:Nat)(zs:List Int)(w:World)(hr:Q1 w ao zs)(hn:zs.length<=140737488355328):
  Calls prog 62 #[.slice ao zs.length cap,.int .u8 0] w fun e w'=>e=.returned (.bool (haz zs))/\Below w.heap.size w w':=by
 go_enter func62,ntmps62;go_wp2_with fail;refine (Qky ao cap zs _ hr hn).mono ?_;rintro e w1 ⟨k,rfl,hk,q,rfl⟩;have HK:=VW hk;clear hk;go_wp2_with fail;go_ret;exact ⟨QaF HK.u,Qo _ _ _⟩
theorem QeW(ao:Option Addr)(cap:Nat)(zs:List Int)(w:World)(hr:Q1 w ao zs)(hn:zs.length<=140737488355328):
  Calls prog 72 #[.slice ao zs.length cap] w fun e w'=>e=.returned (.bool (!haz zs))/\Below w.heap.size w w':=by
 go_enter func72,ntmps72;go_wp2_with fail;go_loopw [3] (fun i wr=>∃k:Nat,k<=zs.length/\i=.int .i64 k/\(∃q,wr=w.drewN q)/\dm (∀j,j<k->zs.getD j 0≠0)) (fun i _=>zs.length-(intOf i).toNat)
 case atStart=>exact ⟨0,Nat.zero_le _,rfl,⟨0,rfl⟩,fun j hj=>absurd hj dk⟩
 case round=>
  obtain ⟨k,hk,rfl,⟨q,rfl⟩,HE⟩:=hrel;by_cases ab:k<zs.length
  ·obtain ⟨b1,o1,rfl,m⟩:=hr.at ab
   have J:=m k ab;clear m hr;by_cases he:zs.getD k 0=0
   ·have HF:dm (false=!haz zs):=by show _=_;rw [Qlm ab he];rfl
    rw [he] at J;clear he HE;go_wp2_with fail;go_ret;exact ⟨QaF HF.u,Qo _ _ _⟩
   ·have HN:dm (∀j,j<k+1->zs.getD j 0≠0):=rk
    generalize zs.getD k 0=x at*;have hx:(x == 0)=false:=by
     rw [beq_eq_false_iff_ne];omega
    exact rl
  ·have e:k=zs.length:=dk
   have HF:dm (true=!haz zs):=by show _=_;rw [Qn0 (fun j hj=>HE.u j dk)];rfl
   clear HE;go_wp2_with fail;go_ret;exact ⟨QaF HF.u,Qo _ _ _⟩
end
section
theorem kZ{P:Prop}(h:P:=by go_wp2_with fail;go_meet;exact ⟨congrArg Value.bool HX.u,D⟩):P:=h
theorem rB{P:Prop}(h:P:=by go_wp2_with fail;go_meet;exact ⟨congrArg Value.bool (by rw [<-o.u];simp [vmn,k0,k1,k2,k3,k4]),rfl⟩):P:=h
theorem rC{P:Prop}(h:P:=by go_wp2_with fail;go_meet;exact ⟨congrArg Value.bool (by rw [<-d.u];simp [vmf,m0,m1,m2]),D2⟩):P:=h
theorem rD{P:Prop}(h:P:=by go_wp2_with fail;go_meet;exact ⟨congrArg Value.bool (by rw [<-z.u];simp [vmt,z0,z1]),j⟩):P:=h
variable{w w':World}{p:Nat}{f mt xf os sz:Int}{ve vn vc:Value}
def Mb(w:World)(p:Nat)(f mt xf os sz:Int)(ve vn vc:Value):Prop:=
 w.cell? ⟨p,0,none⟩=some (.int .i64 f)/\w.cell? ⟨p,1,none⟩=some (.int .i64 mt)/\w.cell? ⟨p,2,none⟩=some (.int .i64 xf)/\w.cell? ⟨p,3,none⟩=some (.int .i64 os)/\w.cell? ⟨p,4,none⟩=some ve/\w.cell? ⟨p,5,none⟩=some vn/\w.cell? ⟨p,6,none⟩=some vc/\w.cell? ⟨p,7,none⟩=some (.int .i64 sz)
theorem Mb.lt(h:Mb w p f mt xf os sz ve vn vc):p<w.heap.size:=World.block_lt_of_cell? w _ h.1
theorem Mb.grown{row:Option Nat}(h:Mb w p f mt xf os sz ve vn vc)(hg:w.grownBy w' row)(hne:some p≠row):Mb w' p f mt xf os sz ve vn vc:=by
 have e:=hg.block p h.lt hne;obtain ⟨H,J,h2,h3,h4,U,h6,h7⟩:=h;have k:∀o,w'.cell? ⟨p,o,none⟩=w.cell? ⟨p,o,none⟩:=fun o=>World.cell?_of_block (w:=w) e
 exact ⟨(k 0).trans H,(k 1).trans J,(k 2).trans h2,(k 3).trans h3,(k 4).trans h4,(k 5).trans U,(k 6).trans h6,(k 7).trans h7⟩
theorem Mb.below(h:Mb w p f mt xf os sz ve vn vc)(hb:Below w.heap.size w w'):Mb w' p f mt xf os sz ve vn vc:=h.grown (Qk hb none) dr
theorem Qfd(w:World)(f mt xf os sz:Int)(ve vn vc:Value)(t:TypeId):Mb (w.alloc (.cells #[.int .i64 f,.int .i64 mt,.int .i64 xf,.int .i64 os,ve,vn,vc,.int .i64 sz] t)) w.heap.size f mt xf os sz ve vn vc:=by
 simp [Mb,go_sem]
def vmn(f mt xf os sz:Int):Bool:=wi f 31 && wi mt 4294967295 && wi xf 255 && wi os 255 && wi sz 100000
def vmf(f:Int)(ne nn nc:Nat):Bool:=mhv f 4 ne && mhv f 8 nn && mhv f 16 nc
def vmt(zn zc:List Int):Bool:=!haz zn && !haz zc
def vmr(ne nn nc:Nat):Bool:=decide (ne<=65535) && decide (ne+nn+nc<=65536)
def vmem(f mt xf os sz:Int)(ze zn zc:List Int):Bool:=vmn f mt xf os sz && vmf f ze.length zn.length zc.length && vmt zn zc && vmr ze.length zn.length zc.length
theorem Qpx(f mt xf os sz:Int)(ae an ac:Option Addr)(ce cn cc:Nat)(ze zn zc:List Int)(w:World)(he:Q1 w ae ze)(hn:Q1 w an zn)(hc:Q1 w ac zc)(le:ze.length<=1048576)(ln:zn.length<=1048576)(lc:zc.length<=1048576):
  Calls prog 26 #[.agg #[.int .i64 f,.int .i64 mt,.int .i64 xf,.int .i64 os,.slice ae ze.length ce,.slice an zn.length cn,.slice ac zc.length cc,.int .i64 sz]] w fun e w'=>e=.returned (.bool (vmem f mt xf os sz ze zn zc))/\Below w.heap.size w w':=by
 refine rz ?_;intro x E HN HC;clear he hn hc;refine rA ?_;intro HR;generalize vmem f mt xf os sz ze zn zc=R at*;obtain ⟨b1,aj⟩:=dt (vmn f mt xf os sz);obtain ⟨b2,ah⟩:=dt (vmf f ze.length zn.length zc.length);obtain ⟨Z,r⟩:=dt (vmt zn zc);obtain ⟨H,T⟩:=dt (vmr ze.length zn.length zc.length);rw [aj,ah,r,T] at HR;have o:=VW aj;have d:=VW ah;have z:=VW r;have F:=VW T;clear aj ah r T;go_enter func26,ntmps26;go_upto_region 1 with fail;go_cut [3] from 7 to 83 (fun v wx=>v=.bool b1/\wx=w.alloc (.cells #[.int .i64 f,.int .i64 mt,.int .i64 xf,.int .i64 os,.slice ae ze.length ce,.slice an zn.length cn,.slice ac zc.length cc,.int .i64 sz] 28))
 case first=>
  go_wp2_with fail;refine (QaL f 31 _).mono ?_;rintro e w1 ⟨rfl,rfl⟩;cases k0:wi f 31 with
  | false=>
   go_wp2_with fail;go_meet;exact ⟨congrArg Value.bool (by rw [<-o.u];simp [vmn,k0]),rfl⟩
  | true=>
   go_wp2_with fail;refine (QaL mt 4294967295 _).mono ?_;rintro e w2 ⟨rfl,rfl⟩;cases k1:wi mt 4294967295 with
   | false=>
    go_wp2_with fail;go_meet;exact ⟨congrArg Value.bool (by rw [<-o.u];simp [vmn,k0,k1]),rfl⟩
   | true=>
    go_wp2_with fail;refine (QaL xf 255 _).mono ?_;rintro e w3 ⟨rfl,rfl⟩;cases k2:wi xf 255 with
    | false=>
     go_wp2_with fail;go_meet;exact ⟨congrArg Value.bool (by rw [<-o.u];simp [vmn,k0,k1,k2]),rfl⟩
    | true=>
     go_wp2_with fail;refine (QaL os 255 _).mono ?_;rintro e w4 ⟨rfl,rfl⟩;cases k3:wi os 255 with
     | false=>
      go_wp2_with fail;go_meet;exact ⟨congrArg Value.bool (by rw [<-o.u];simp [vmn,k0,k1,k2,k3]),rfl⟩
     | true=>
      go_wp2_with fail;refine (QaL sz 100000 _).mono ?_;rintro e w5 ⟨rfl,rfl⟩;cases k4:wi sz 100000 with
      | false=>
       exact rB
      | true=>
       exact rB
 case rest=>
  obtain ⟨rfl,rfl⟩:=hcut;generalize w.alloc (.cells #[.int .i64 f,.int .i64 mt,.int .i64 xf,.int .i64 os,.slice ae ze.length ce,.slice an zn.length cn,.slice ac zc.length cc,.int .i64 sz] 28)=W1 at*;obtain ⟨C,c1,c2,c3,c4,c5,c6,c7⟩:=x.u;go_upto_region 2 with fail;go_cut [4] from 7 to 83 (fun v wx=>v=.bool b2/\dm (Below W1.heap.size W1 wx))
  case first=>
   go_wp2_with fail;refine (Qc3 f mt xf os sz ae an ac ze.length ce zn.length cn zc.length cc 4 ae ze.length ce _).mono ?_;rintro e w2 ⟨rfl,d0⟩;have n:=VW<|d0
   obtain ⟨C,c1,c2,c3,c4,c5,c6,c7⟩:=x.u.below n.u;clear d0;cases m0:mhv f 4 ze.length with
   | false=>
    go_wp2_with fail;go_meet;exact ⟨congrArg Value.bool (by rw [<-d.u];simp [vmf,m0]),n⟩
   | true=>
    go_wp2_with fail;refine (Qc3 f mt xf os sz ae an ac ze.length ce zn.length cn zc.length cc 8 an zn.length cn _).mono ?_;rintro e w3 ⟨rfl,d1⟩;have M:=VW<|(n.u).trans (d1.mono (n.u).size)
    obtain ⟨C,c1,c2,c3,c4,c5,c6,c7⟩:=x.u.below M.u;clear d1;cases m1:mhv f 8 zn.length with
    | false=>
     go_wp2_with fail;go_meet;exact ⟨congrArg Value.bool (by rw [<-d.u];simp [vmf,m0,m1]),M⟩
    | true=>
     go_wp2_with fail;refine (Qc3 f mt xf os sz ae an ac ze.length ce zn.length cn zc.length cc 16 ac zc.length cc _).mono ?_;rintro e w4 ⟨rfl,d2⟩;have D2:=VW<|(M.u).trans (d2.mono (M.u).size)
     obtain ⟨C,c1,c2,c3,c4,c5,c6,c7⟩:=x.u.below D2.u;clear d2;cases m2:mhv f 16 zc.length with
     | false=>
      exact rC
     | true=>
      exact rC
  case rest=>
   obtain ⟨rfl,D⟩:=hcut;clear C c1 c2 c3 c4 c5 c6 c7;obtain ⟨C,c1,c2,c3,c4,c5,c6,c7⟩:=x.u.below D.u;go_upto_region 3 with fail;go_cut [5] from 7 to 83 (fun v wx=>v=.bool Z/\dm (Below W1.heap.size W1 wx))
   case first=>
    go_wp2_with fail;refine (Qdd an cn zn _ (HN.u.below (E.u.trans (D.u.mono E.u.size))) dk).mono ?_;rintro e w5 ⟨rfl,k⟩;have D5:=VW<|D.u.trans (k.mono D.u.size)
    clear C c1 c2 c3 c4 c5 c6 c7 k;obtain ⟨C,c1,c2,c3,c4,c5,c6,c7⟩:=x.u.below D5.u;cases z0:haz zn with
    | true=>
     go_wp2_with fail;go_meet;exact ⟨congrArg Value.bool (by rw [<-z.u];simp [vmt,z0]),D5⟩
    | false=>
     go_wp2_with fail;refine (Qdd ac cc zc _ (HC.u.below (E.u.trans (D5.u.mono E.u.size))) dk).mono ?_;rintro e w6 ⟨rfl,u⟩;have j:=VW<|D5.u.trans (u.mono D5.u.size)
     clear u;cases z1:haz zc with
     | true=>
      exact rD
     | false=>
      exact rD
   case rest=>
    clear C c1 c2 c3 c4 c5 c6 c7 D;obtain ⟨rfl,D⟩:=hcut;obtain ⟨C,c1,c2,c3,c4,c5,c6,c7⟩:=x.u.below D.u;go_upto_region 4 with fail;go_cut [6] from 7 to 83 (fun v wx=>v=.bool H/\dm (Below W1.heap.size W1 wx))
    case first=>
     by_cases r1:ze.length<=65535
     ·have q:((ze.length:Int)<=65535):=dk
      by_cases r2:ze.length+zn.length+zc.length<=65536
      ·have p:((ze.length:Int)+(zn.length:Int)+(zc.length:Int)<=65536):=dk
       have HX:dm (true=H):=by show _=_;rw [<-F.u];simp [vmr,r1,r2]
       clear r1 r2;exact kZ
      ·have p:¬((ze.length:Int)+(zn.length:Int)+(zc.length:Int)<=65536):=dk
       have HX:dm (false=H):=by show _=_;rw [<-F.u];simp [vmr,r2]
       clear r1 r2;exact kZ
     ·have q:¬((ze.length:Int)<=65535):=dk
      have HX:dm (false=H):=by show _=_;rw [<-F.u];simp [vmr,r1]
      clear r1;exact kZ
    case rest=>
     clear C c1 c2 c3 c4 c5 c6 c7 D o d z F;obtain ⟨rfl,D⟩:=hcut;have hL:Below w.heap.size w wc:=E.u.trans (D.u.mono E.u.size);have HL:=VW hL;clear hL;cases b1 with
     | false=>
      exact gf
     | true=>
      cases b2 with
      | false=>
       exact gf
      | true=>
       cases Z with
       | false=>
        exact gf
       | true=>
        cases H with
        | false=>
         exact gf
        | true=>
         exact gf
end
theorem tg{P:Prop}(h:P:=by
 rcases (show (n:Int)/16%2=0\/(n:Int)/16%2=1 from dk) with m|m
 ·by_cases S:zc.length=0
  ·have m2:mhv (n:Int) 16 zc.length=true:=by rw [mhv,S];simp
   have h:¬(0:Int)<zc.length:=dk;have g:decide (0<zc.length)=false:=decide_eq_false dk;clear S;exact tc
  ·have m2:mhv (n:Int) 16 zc.length=false:=by rw [mhv,a.u,m];simp [S]
   have h:(0:Int)<zc.length:=dk;have g:decide (0<zc.length)=true:=decide_eq_true dk;clear S;have HX:dm (true=!b2):=te;clear d;exact ji
 ·have m2:mhv (n:Int) 16 zc.length=true:=by rw [mhv,a.u,m];simp
  exact tc):P:=h
theorem sQ{P:Prop}(h:P:=by
 rcases (show (n:Int)/8%2=0\/(n:Int)/8%2=1 from dk) with l|l
 ·by_cases X:zn.length=0
  ·have m1:mhv (n:Int) 8 zn.length=true:=by rw [mhv,X];simp
   have s:¬(0:Int)<zn.length:=dk;have r:decide (0<zn.length)=false:=decide_eq_false dk;clear X;exact tg
  ·have m1:mhv (n:Int) 8 zn.length=false:=by rw [mhv,i.u,l];simp [X]
   have s:(0:Int)<zn.length:=dk;have r:decide (0<zn.length)=true:=decide_eq_true dk;clear X;have HX:dm (true=!b2):=by show _=_;rw [<-d.u];simp [vmf,m0,m1]
   clear d;exact ji
 ·have m1:mhv (n:Int) 8 zn.length=true:=by rw [mhv,i.u,l];simp
  exact tg):P:=h
theorem fC{P:Prop}(h:P:=by exact ji):P:=h
theorem ji{P:Prop}(h:P:=by go_wp2_with fail;go_meet;exact ⟨congrArg Value.bool HX.u,rfl⟩):P:=h
theorem QiP(f mt xf os sz:Int):vmn f mt xf os sz=(wi f 31 && wi mt 4294967295 && wi xf 255 && wi os 255 && wi sz 100000):=rfl
theorem QoR(f mt xf os sz:Int)(ae an ac:Option Addr)(ce cn cc:Nat)(ze zn zc:List Int)(w:World)(he:Q1 w ae ze)(hn:Q1 w an zn)(hc:Q1 w ac zc)(le:ze.length<=1048576)(ln:zn.length<=1048576)(lc:zc.length<=1048576):
  Calls prog 33 #[.agg #[.int .i64 f,.int .i64 mt,.int .i64 xf,.int .i64 os,.slice ae ze.length ce,.slice an zn.length cn,.slice ac zc.length cc,.int .i64 sz]] w fun e w'=>e=.returned (.bool (vmem f mt xf os sz ze zn zc))/\Below w.heap.size w w':=by
 refine rz ?_;intro x E HN HC;clear he hn hc;refine rA ?_;intro HR;generalize vmem f mt xf os sz ze zn zc=R at*;obtain ⟨b1,aj⟩:=dt ((wi f 31 && wi mt 4294967295 && wi xf 255 && wi os 255));have o:=VW aj;clear aj;go_enter func33,ntmps33;go_upto_region 1 with fail;go_cut [40] from 3 to 115 (fun v wx=>v=.bool (!b1)/\wx=w.alloc (.cells #[.int .i64 f,.int .i64 mt,.int .i64 xf,.int .i64 os,.slice ae ze.length ce,.slice an zn.length cn,.slice ac zc.length cc,.int .i64 sz] 28))
 case first=>
  by_cases p0:f<0
  ·exact sL
  ·by_cases q0:31<f
   ·exact sL
   ·have k0:wi f 31=true:=decide_eq_true dk
    by_cases p1:mt<0
    ·exact sM
    ·by_cases q1:4294967295<mt
     ·exact sM
     ·have k1:wi mt 4294967295=true:=decide_eq_true dk
      by_cases Z:xf<0
      ·exact sN
      ·by_cases q2:255<xf
       ·exact sN
       ·have k2:wi xf 255=true:=decide_eq_true dk
        by_cases A:os<0
        ·exact sO
        ·by_cases q3:255<os
         ·exact sO
         ·have k3:wi os 255=true:=decide_eq_true dk
          have HX:dm (false=!b1):=sP;clear o;exact fC
 case rest=>
  obtain ⟨rfl,rfl⟩:=hcut;cases b1 with
  | false=>
   have HX:dm (false=R):=by
    show _=_;rw [HR.u,QiP,o.u];simp
   clear HR o;exact lU
  | true=>
   have y:=o.u;simp only [Bool.and_eq_true] at y;obtain ⟨⟨⟨k0,k1⟩,k2⟩,k3⟩:=y;have f0:0<=f:=(of_decide_eq_true k0).1;have f1:f<=31:=(of_decide_eq_true k0).2;have t:dm (vmn f mt xf os sz=wi sz 100000):=by show _=_;rw [QiP,k0,k1,k2,k3];rfl
   clear k0 k1 k2 k3 o;generalize w.alloc (.cells #[.int .i64 f,.int .i64 mt,.int .i64 xf,.int .i64 os,.slice ae ze.length ce,.slice an zn.length cn,.slice ac zc.length cc,.int .i64 sz] 28)=W1 at*;obtain ⟨C,c1,c2,c3,c4,c5,c6,c7⟩:=x.u;have aa:=x.u.lt;have g4:=Qru f f0 f1;have Y:=QrB f f0 f1;have B:=Qrd f f0 f1;obtain ⟨n,rfl⟩:∃n:Nat,f=n:=⟨f.toNat,dk⟩;obtain ⟨b2,ah⟩:=dt (vmf (n:Int) ze.length zn.length zc.length);have d:=VW ah;clear ah;have c:=VW g4;have i:=VW Y;have a:=VW B;clear g4 Y B;go_upto_region 3 with fail;go_cut [77] from 3 to 115 (fun v wx=>v=.bool (!b2)/\wx=W1)
   case first=>
    rcases (show (n:Int)/4%2=0\/(n:Int)/4%2=1 from dk) with j0|j0
    ·by_cases l0:ze.length=0
     ·have m0:mhv (n:Int) 4 ze.length=true:=by rw [mhv,l0];simp
      have D:¬(0:Int)<ze.length:=dk;have F:decide (0<ze.length)=false:=decide_eq_false dk;clear l0;exact sQ
     ·have m0:mhv (n:Int) 4 ze.length=false:=by rw [mhv,c.u,j0];simp [l0]
      have D:(0:Int)<ze.length:=dk;have F:decide (0<ze.length)=true:=decide_eq_true dk;clear l0;have HX:dm (true=!b2):=by show _=_;rw [<-d.u];simp [vmf,m0]
      clear d;exact fC
    ·have m0:mhv (n:Int) 4 ze.length=true:=by rw [mhv,c.u,j0];simp
     exact sQ
   case rest=>
    obtain ⟨rfl,rfl⟩:=hcut;cases b2 with
    | false=>
     have HX:dm (false=R):=by
      show _=_;rw [HR.u,d.u];simp
     clear HR d;exact lU
    | true=>
     have z:dm (R=(wi sz 100000 && vmt zn zc && vmr ze.length zn.length zc.length)):=by
      show _=_;rw [HR.u,d.u,t.u];simp
     clear HR d t c i a;by_cases r1:ze.length<=65535
     ·have q:((ze.length:Int)<=65535):=dk
      go_wp2_with fail;refine (QeW an cn zn _ (HN.u.below E.u) dk).mono ?_;rintro e w5 ⟨rfl,k⟩;have D5:=VW<|E.u.trans (k.mono E.u.size)
      obtain ⟨C,c1,c2,c3,c4,c5,c6,c7⟩:=x.u.below k;have HM:=VW<|x.u.below k
      clear k;cases z0:haz zn with
      | true=>
       have HX:dm (false=R):=by
        show _=_;rw [z.u,vmt,z0];simp
       clear z;simp only [Bool.not_true];go_wp2_with fail;go_ret;exact ⟨QaF HX.u,D5.u⟩
      | false=>
       simp only [Bool.not_false];go_wp2_with fail;refine (QeW ac cc zc _ (HC.u.below D5.u) dk).mono ?_;rintro e w6 ⟨rfl,u⟩;have j:=VW<|D5.u.trans (u.mono D5.u.size)
       obtain ⟨C,c1,c2,c3,c4,c5,c6,c7⟩:=HM.u.below u;clear u;cases z1:haz zc with
       | true=>
        have HX:dm (false=R):=by
         show _=_;rw [z.u,vmt,z1];simp
        clear z;simp only [Bool.not_true];go_wp2_with fail;go_ret;exact ⟨QaF HX.u,j.u⟩
       | false=>
        simp only [Bool.not_false];have b:dm (R=(wi sz 100000 && vmr ze.length zn.length zc.length)):=by
         show _=_;rw [z.u,vmt,z0,z1];simp
        clear z;by_cases r2:ze.length+zn.length+zc.length<=65536
        ·have p:((ze.length:Int)+(zn.length:Int)+(zc.length:Int)<=65536):=dk
         by_cases s0:0<=sz
         ·by_cases s1:sz<=100000
          ·have HX:dm (true=R):=by show _=_;rw [b.u,vmr];simp [r1,r2,wi,s0,s1]
           exact ja
          ·have HX:dm (false=R):=by show _=_;rw [b.u,wi];simp [s1]
           exact ja
         ·have HX:dm (false=R):=by show _=_;rw [b.u,wi];simp [s0]
          exact ja
        ·have p:¬((ze.length:Int)+(zn.length:Int)+(zc.length:Int)<=65536):=dk
         have HX:dm (false=R):=by show _=_;rw [b.u,vmr];simp [r2]
         exact ja
     ·have q:¬((ze.length:Int)<=65535):=dk
      have HX:dm (false=R):=by show _=_;rw [z.u,vmr];simp [r1]
      clear r1 z;exact lU
end Go.Proofs.YtgginbpmebgkcaaGreatDoor
