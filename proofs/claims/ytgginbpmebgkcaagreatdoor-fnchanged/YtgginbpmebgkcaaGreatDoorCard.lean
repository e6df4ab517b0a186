import Derived.Test.YtgginbpmebgkcaaGreatDoorRows
import Derived.Test.YtgginbpmebgkcaaGreatDoorCards
import Derived.Test.YtgginbpmebgkcaaGreatDoorTie
import Derived.Test.YtgginbpmebgkcaaGreatDoorMBZ
import Derived.WalkKit
import Derived.ProofKit
import Derived.OpenShut
import Derived.OpenVars
import Derived.ShutString
import Derived.ChangeOld
import Derived.ChangeVars
import Derived.Below
import Derived.LaidLaws
import Derived.LaidHandle
import Derived.LaidMore
import Derived.SevenTiedAt
import Derived.Stop.Joined
import Derived.Lib.SmallJoins
namespace Go.Proofs.YtgginbpmebgkcaaGreatDoor.fnChanged
open Go.ChangeShapes Go.WideShapes Go.ChangeAt Go.RowKit Go.Joins
open Go.ChangeMaps (open_string shut_string)
set_option linter.unusedVariables false
theorem own:ownKnob Tryz.prog.godebug=none:=by kernel_rfl
theorem laidOut:laidOutB Tryz.prog=true:=by kernel_rfl
def IsRow (w:World) (a:Option Addr) (cap:Nat) (zs:List Int):Prop:=
 zs.length≤cap∧cap≤maxLen∧(a=none→cap=0)∧Q1 w a zs∧Qh zs
theorem open_row {H:Type} {enc:TypeId×Value→H} {W:World} {base:Nat} {sp:Nat→Bool} {held:Bool} {fuel:Nat} {cs:List Value} {x:DataW H×List MemPlace} (hf:DataW.trod enc Tryz.prog W base sp held fuel 22 cs=some x):
  ∃a cap zs,cs=[.slice a zs.length cap]∧IsRow W a cap zs:=by
 rcases open_ints Tryz.underlying22 Tryz.underlying5 (by kernel_rfl) hf with ⟨hcs,_⟩|⟨x,l,c,zs,hcs,_,hl,hm,hz,_,hcell,hwz⟩
 ·exact ⟨none,0,[],hcs,Nat.le_refl _,Nat.zero_le _,fun _=>rfl,Q1.nil _ _,fun z hz=>by cases hz⟩
 ·have hlz:l≤zs.length:=by rw [hz];split<;>omega
  have e1:(zs.take l).length=l:=by rw [List.length_take];omega
  refine ⟨some x,c,zs.take l,by rw [e1];exact hcs,by rw [e1];exact hl,hm,fun e=>(by cases e),?_,?_⟩
  ·intro i hi
   rw [e1] at hi
   obtain ⟨b,off,spot⟩:=x
   have hc:=hcell i (by omega)
   have hspot:spot=none:=by
    have h0:=hcell 0 (by omega)
    simpa [Addr.add] using World.cell?_spot h0
   subst hspot
   refine ⟨b,off,rfl,?_⟩
   rw [Addr.add_lit] at hc
   rw [hc]
   simp [List.getD,hi]
  ·intro z hz
   exact bounds_u8 (hwz z (List.mem_of_mem_take hz))
theorem oneRow:((List.range Tryz.prog.types.size).filter fun t=>Tryz.prog.rowNamed t [101,114,114,111,114])=[131]:=by kernel_rfl
theorem c1:Tryz.prog.cellsOf 2=1:=by kernel_rfl
theorem ordAt (k:Nat) (h:k<19) (l:List (DataW Unit)) (hl:DataW.agg l=Rows.laid_loop_example_s02972_impl_codeOrder):l[k]?=some (.lit (.int .i64 ((ord19 k:Nat):Int))):=by
 have hl2:l=[.lit (.int .i64 16),.lit (.int .i64 17),.lit (.int .i64 18),.lit (.int .i64 0),.lit (.int .i64 8),.lit (.int .i64 7),.lit (.int .i64 9),.lit (.int .i64 6),.lit (.int .i64 10),.lit (.int .i64 5),.lit (.int .i64 11),.lit (.int .i64 4),.lit (.int .i64 12),.lit (.int .i64 3),.lit (.int .i64 13),.lit (.int .i64 2),.lit (.int .i64 14),.lit (.int .i64 1),.lit (.int .i64 15)]:=by
  unfold Rows.laid_loop_example_s02972_impl_codeOrder at hl
  injection hl
 subst hl2
 have h3:k=0∨k=1∨k=2∨k=3∨k=4∨k=5∨k=6∨k=7∨k=8∨k=9∨k=10∨k=11∨k=12∨k=13∨k=14∨k=15∨k=16∨k=17∨k=18:=by omega
 rcases h3 with rfl|rfl|rfl|rfl|rfl|rfl|rfl|rfl|rfl|rfl|rfl|rfl|rfl|rfl|rfl|rfl|rfl|rfl|rfl<;>rfl
def mk3 (k:Nat):Int:=if k=0 then 31 else if k=1 then 139 else 8
theorem markAt (k:Nat) (h:k<3) (l:List (DataW Unit)) (hl:DataW.agg l=Rows.laid_loop_example_s02972_impl_gzipMarks):l[k]?=some (.lit (.int .i64 (mk3 k))):=by
 have hl2:l=[.lit (.int .i64 31),.lit (.int .i64 139),.lit (.int .i64 8)]:=by
  unfold Rows.laid_loop_example_s02972_impl_gzipMarks at hl
  injection hl
 subst hl2
 have h3:k=0∨k=1∨k=2:=by omega
 rcases h3 with rfl|rfl|rfl<;>rfl
theorem of_laid {W:World} (h:laidMetH Tryz.prog Rows.fnChangedRow.laid W):QfE W∧Qbq W:=by
 have h':laidMet Tryz.prog (Rows.fnChangedRow.laid.filter fun x=>x.2.handleName?.isNone) W∧handlesMet Tryz.prog (Rows.fnChangedRow.laid.filter fun x=>x.2.handleName?.isSome) W:=h
 obtain ⟨hd,hh⟩:=h'
 have hg0:W.cell? ⟨1,0,none⟩=some (.iface 257 (.agg #[.pointer (some ⟨3,131,none⟩)])):=by
  obtain ⟨name,u,ty,e1,e2,e3,e4,e5⟩:=hh _ (List.mem_singleton.2 rfl)
  have en:name=[101,114,114,111,114]:=(Option.some.inj e1).symm
  subst en
  obtain rfl:u=257:=Option.some.inj (e2.symm.trans (by kernel_rfl))
  have hm:ty∈(List.range Tryz.prog.types.size).filter fun t=>Tryz.prog.rowNamed t [101,114,114,111,114]:=List.mem_filter.2 ⟨List.mem_range.2 e3,e4⟩
  rw [oneRow] at hm
  obtain rfl:=List.mem_singleton.1 hm
  have hh:typeHandle Tryz.prog 131=.pointer (some ⟨3,131,none⟩):=by kernel_rfl
  rw [hh] at e5
  simpa using World.var?_cell (g:=1) (by kernel_rfl) e5 0
 obtain ⟨ps,⟨g,t,cs,fuel,p,q,hg,ht,hv,hdt,⟨g',t',cs',fuel',p',q',hg',ht',hv',hdt',_,_⟩,_⟩,_,_⟩:=hd
 obtain rfl:g=2:=Option.some.inj (hg.symm.trans (by kernel_rfl))
 obtain rfl:t=68:=Option.some.inj (ht.symm.trans (by kernel_rfl))
 have hg1:∀k,k<19→W.cell? ⟨2,k,none⟩=some (.int .i64 (ord19 k:Nat)):=by
  intro k hk
  obtain ⟨xs,m,rfl,hx,hlen,hn,hel⟩:=DataW.trod_array Tryz.underlying68 hdt
  simp only [Prod.mk.injEq] at hx
  have ho:=ordAt k hk _ hx.1.symm
  rw [List.getElem?_map] at ho
  have h1:=hel k hk
  cases hxk:xs[k]? with
  | none=>rw [hxk] at ho;cases ho
  | some y=>
   rw [hxk] at ho h1
   obtain ⟨n,e1,e2,_⟩:=DataW.trod_int Tryz.underlying2 h1
   rw [e2] at ho
   have hnk:n=((ord19 k:Nat):Int):=by
    simp only [Option.map_some,Option.some.injEq,DataW.lit.injEq,Lit.int.injEq,true_and] at ho
    exact ho
   rw [c1] at e1
   rw [World.var?_cell hg hv k,←Array.getElem?_toList]
   have h2:(cs.toList.drop (k*1)).take 1=[.int .i64 n]:=e1
   rw [Nat.mul_one] at h2
   have h3:((cs.toList.drop k).take 1)[0]?=some (.int .i64 n):=by rw [h2];rfl
   rw [List.getElem?_take_of_lt (by decide),List.getElem?_drop,Nat.add_zero] at h3
   rw [h3,hnk]
 obtain rfl:g'=0:=Option.some.inj (hg'.symm.trans (by kernel_rfl))
 obtain rfl:t'=121:=Option.some.inj (ht'.symm.trans (by kernel_rfl))
 have hg2:∀k,k<3→W.cell? ⟨0,k,none⟩=some (.int .i64 (mk3 k)):=by
  intro k hk
  obtain ⟨xs,m,rfl,hx,hlen,hn,hel⟩:=DataW.trod_array Tryz.underlying121 hdt'
  simp only [Prod.mk.injEq] at hx
  have ho:=markAt k hk _ hx.1.symm
  rw [List.getElem?_map] at ho
  have h1:=hel k hk
  cases hxk:xs[k]? with
  | none=>rw [hxk] at ho;cases ho
  | some y=>
   rw [hxk] at ho h1
   obtain ⟨n,e1,e2,_⟩:=DataW.trod_int Tryz.underlying2 h1
   rw [e2] at ho
   have hnk:n=((mk3 k):Int):=by
    simp only [Option.map_some,Option.some.injEq,DataW.lit.injEq,Lit.int.injEq,true_and] at ho
    exact ho
   rw [c1] at e1
   rw [World.var?_cell hg' hv' k,←Array.getElem?_toList]
   have h2:(cs'.toList.drop (k*1)).take 1=[.int .i64 n]:=e1
   rw [Nat.mul_one] at h2
   have h3:((cs'.toList.drop k).take 1)[0]?=some (.int .i64 n):=by rw [h2];rfl
   rw [List.getElem?_take_of_lt (by decide),List.getElem?_drop,Nat.add_zero] at h3
   rw [h3,hnk]
 refine ⟨⟨?_,hg0,hg1⟩,⟨hg2 0 (by decide),hg2 1 (by decide),hg2 2 (by decide)⟩⟩
 have b0:=World.block_lt_of_cell? W _ hg0
 have b1:=World.block_lt_of_cell? W _ (hg1 0 (by decide))
 have b2:=World.block_lt_of_cell? W _ (hg2 0 (by decide))
 dsimp only at b0 b1 b2
 omega
theorem door_met (os:Os) (args:Array Value):laidMetH Tryz.prog Rows.fnChangedRow.laid ((World.doorLaid Tryz.prog 400 os).forCall (fun _ _=>0) ⟨#[],args,[]⟩).memory:=
 laidMetH_of_parts (laidMet_of_run' 8 (by kernel_rfl) (by kernel_rfl)) (by kernel_rfl)
theorem walk (a0:Option Addr) (cap0:Nat) (z0:List Int) (a1:Option Addr) (cap1:Nat) (z1:List Int) (w:World) (w0:IsRow w a0 cap0 z0) (w1:IsRow w a1 cap1 z1) (hG:QfE w) (hM:Qbq w):
  Calls Tryz.prog 3 #[.slice a0 z0.length cap0,.slice a1 z1.length cap1] w fun e w'=>e=.returned (.bool true)∧Below w.heap.size w w':=by
 obtain ⟨h1,h2,h3,h4,h5⟩:=w0
 obtain ⟨k1,k2,k3,k4,k5⟩:=w1
 by_cases hn:z0.length≤1048576
 ·by_cases hm:z1.length≤1048576
  ·exact Qsh a0 a1 cap0 cap1 z0 z1 w h4 h5 hn k4 k5 hm hG hM
  ·exact Qqg a0 a1 z0.length cap0 z1.length cap1 w (by unfold maxLen at k2;omega) hn (by omega)
 ·exact QqQ a0 a1 z0.length cap0 z1.length cap1 w (by unfold maxLen at h2;omega) (by omega)
set_option maxRecDepth 100000 in
theorem lifted (os:Os) (started:os.Started) (H:Type) (enc:TypeId×Value→H):
  ReturnsInHanded {} Tryz.checked os 3 .any (fun w args=>(Rows.fnChangedSpec.pre enc Tryz.prog Tryz.f3 [] false w args∧laidMetH Tryz.prog Rows.fnChangedRow.laid w)∧sizedMet enc Tryz.prog Tryz.f3 (OpenSpec.ofChange Rows.fnChangedSpec) false w args)
   (Rows.fnChangedSpec.post enc Tryz.prog Tryz.f3 false true false false):=by
 refine returnsInHanded_of_change_and (C:=Tryz.checked) (X:=fun w _=>laidMetH Tryz.prog Rows.fnChangedRow.laid w) (fun _ _ _ hh h=>h.of_heap hh) own started (by kernel_rfl) Tryz.func3
  (ChangeSpec.witness_shaped (enc:=enc) (C:=Tryz.checked) (os:=os) (X:=fun w _=>laidMetH Tryz.prog Rows.fnChangedRow.laid w) false (World.doorLaid Tryz.prog 400 os) #[.slice none 0 0,.slice none 0 0] 8 rfl (World.shaped_of_RefB (by kernel_rfl) (by kernel_rfl)) (by kernel_rfl) (by kernel_rfl) (by kernel_rfl) (door_met os _)) ?_
 intro W base args ds gs before hval0 hW _ _ hL _
 have hval:∀(j:Nat) t v,Tryz.f3.params[j]?=some t→args[j]?=some v→Value.okWide Tryz.prog W .any base t v:=hval0
 have hW':=hW
 obtain ⟨p,q,hA0,hV0,rfl,hfz,hnd⟩:=hW
 have hA:DataW.TrodAll enc Tryz.prog W 0 (fun _=>true) true Tryz.f3.params.toList args.toList ds p:=hA0
 have hV:DataW.TrodVars enc Tryz.prog W (fun _=>true) Rows.fnChangedSpec.vars gs q:=hV0
 rw [Tryz.params3] at hA hval
 obtain ⟨v0,vs0,d0,ds0,p0,q0,hargs,rfl,rfl,h0,r0⟩:=trodAll_cons hA
 obtain ⟨v1,vs1,d1,ds1,p1,q1,rfl,rfl,rfl,h1,r1⟩:=trodAll_cons r0
 obtain ⟨rfl,rfl,rfl⟩:=trodAll_nil r1
 obtain rfl:args=#[v0,v1]:=by cases args;simp_all
 have k0:=h0
 have lt0:∀x∈p0,x.block<W.heap.size:=by obtain ⟨m,hm⟩:=k0;exact DataW.trod_lt m _ _ _ hm
 obtain ⟨aa0,len0,cc0,rfl⟩:=okWide_slice Tryz.underlying22 (hval 0 22 v0 rfl rfl)
 obtain ⟨a0,cap0,z0,e00,w0⟩:∃a cap zs,[Value.slice aa0 len0 cc0]=[.slice a zs.length cap]∧IsRow W a cap zs:=by
  obtain ⟨fuel,hf⟩:=h0
  exact open_row (by simpa [Value.cells] using hf)
 simp only [List.cons.injEq,and_true,Value.slice.injEq] at e00
 obtain ⟨rfl,rfl,rfl⟩:=e00
 have k1:=h1
 have lt1:∀x∈p1,x.block<W.heap.size:=by obtain ⟨m,hm⟩:=k1;exact DataW.trod_lt m _ _ _ hm
 obtain ⟨aa1,len1,cc1,rfl⟩:=okWide_slice Tryz.underlying22 (hval 1 22 v1 rfl rfl)
 obtain ⟨a1,cap1,z1,e01,w1⟩:∃a cap zs,[Value.slice aa1 len1 cc1]=[.slice a zs.length cap]∧IsRow W a cap zs:=by
  obtain ⟨fuel,hf⟩:=h1
  exact open_row (by simpa [Value.cells] using hf)
 simp only [List.cons.injEq,and_true,Value.slice.injEq] at e01
 obtain ⟨rfl,rfl,rfl⟩:=e01
 obtain ⟨hG,hM⟩:=of_laid hL
 obtain ⟨gd0,gd1,rfl⟩:∃g0 g1,gs=[g0,g1]:=by
  obtain ⟨_,_,_,_,x0,_,_,_,_,_,x1,_,e,_⟩:=trodVars_two (n0:=Rows.fnChangedSpec.vars.headD Rows.fnChangedSpec.name) (n1:=(Rows.fnChangedSpec.vars.drop 1).headD Rows.fnChangedSpec.name) hV
  exact ⟨x0,x1,e⟩
 clear hA0 hval0
 refine (walk _ _ z0 _ _ z1 W w0 w1 hG hM).mono fun e W' ⟨he,bel⟩=>?_
 subst he
 exact ⟨_,rfl,_,_,_,[],_,_,hW',trodAll_mk1 (shut_bool Tryz.underlying4 _),(trodAll_cons_mk (Below.trod laidOut (by kernel_rfl) (of_decide_eq_true (by kernel_rfl)) k0 bel lt0) (trodAll_cons_mk (Below.trod laidOut (by kernel_rfl) (of_decide_eq_true (by kernel_rfl)) k1 bel lt1) trodAll_mk0)),Below.trodVars laidOut bel (by kernel_rfl) hV,bel.frame _,fun h=>by cases h⟩
theorem over:Rows.FnChangedSaid:=
 OpenClaim.holds_of_wide 3 Tryz.f3 rfl rfl rfl rfl rfl rfl rfl ⟨rfl,rfl,rfl,rfl,rfl⟩ rfl rfl rfl rfl rfl (by kernel_rfl) Tryz.func3 (by kernel_rfl)
  (of_decide_eq_true (by kernel_rfl)) (by unfold Func.isWrapper;first|(rw [if_pos (by decide+kernel)];kernel_rfl)|(rw [if_neg (by decide+kernel)];exact ⟨rfl,rfl⟩))
  (fun os started H enc _=>lifted os started H enc)
theorem looks (f:FuncId) (fn:Func) (hf:Tryz.prog.funcNamed Rows.fnChangedRow.func=some f) (hfn:Tryz.prog.funcs[f]?=some fn):true=Tryz.prog.looks []∧∀(j:Nat) t,fn.params[j]?=some t→Tryz.prog.wantsStandIn t=false:=by
 obtain rfl:f=3:=Option.some.inj ((show Tryz.prog.funcNamed Rows.fnChangedRow.func=some 3 by kernel_rfl).symm.trans hf)|>.symm
 obtain rfl:fn=Tryz.f3:=(Option.some.inj (Tryz.func3.symm.trans hfn)).symm
 refine ⟨by kernel_rfl,fun j t ht=>?_⟩
 rw [Tryz.params3] at ht
 have hm:t∈[22,22]:=by simpa using Array.mem_of_getElem? ht
 have hall:([22,22].all fun u=>!Tryz.prog.wantsStandIn u)=true:=by kernel_rfl
 exact (show Tryz.prog.wantsStandIn t=false by simpa using List.all_eq_true.1 hall t hm)
theorem proved:Rows.FnChangedCardSaid:=
 ⟨Claim7.tied_new_at .later [.handle,.data,.data] true (Claim7.new_of_sixth over Rows.fnChangedCard.stood.harness true rfl ⟨rfl,rfl⟩ (by kernel_rfl) (by kernel_rfl) looks) (by kernel_rfl),(fun D hD=>by cases hD),fnChanged_row_tie,(fun h=>by cases h),by kernel_rfl⟩
#print axioms proved
end Go.Proofs.YtgginbpmebgkcaaGreatDoor.fnChanged
