import Derived.Test.YtgginbpmebgkcaaGreatDoorProg
import Derived.WalkKit
import Derived.LaidEql
import Derived.Stop.Asserts
import Derived.RowKitTokens
import Derived.Test.YtgginbpmebgkcaaGreatDoorMAB
namespace Go.Proofs.YtgginbpmebgkcaaGreatDoor
open Go.RowKit Go.Extern.Stop Go.Stop Go.Extern Go.Proofs.Tryz
set_option linter.unusedVariables false
set_option maxRecDepth 100000
set_option maxHeartbeats 25600000
theorem Tryz.valueOfP(t:Addr)(w:World):(ReflectliteValue.unpack (.iface 181 (.pointer (some t)))).run prog w
  =.ok (.agg #[.pointer (some ⟨3,181,none⟩),.pointer (some ⟨w.heap.size,0,none⟩),.int .u64 150]) (w.alloc (.cells #[.pointer (some t)] 181)):=by kernel_rfl
theorem Tryz.valueOfS(c:Int)(w:World):(ReflectliteValue.unpack (.iface 175 (.agg #[.int .i64 c]))).run prog w
  =.ok (.agg #[.pointer (some ⟨3,175,none⟩),.pointer (some ⟨w.heap.size,0,none⟩),.int .u64 153]) (w.alloc (.cells #[.int .i64 c] 175)):=by kernel_rfl
theorem Tryz.typeP(a : Addr)(w : World) : (ReflectliteValue.methodAny (ReflectliteValue.valueError "reflectlite.Value.Type" 0) (fun t _ _ _ => ReflectliteType.toType t) #[.agg #[.pointer (some ⟨3, 181, none⟩), .pointer (some a), .int .u64 150]]).run prog w
  =.ok (.iface 257 (.agg #[.pointer (some ⟨3,181,none⟩)])) w:=by kernel_rfl
theorem Tryz.kindP(w:World):((ReflectliteType.abiMethod fun t=>Functor.map (fun a:Nat=>Value.int IntKind.u8 (a:Int)) (Rtype.kind t)) #[.pointer (some ⟨3,181,none⟩)]).run prog w=.ok (.int .u8 22) w:=by kernel_rfl
theorem Tryz.kindS(w:World):((ReflectliteType.abiMethod fun t=>Functor.map (fun a:Nat=>Value.int IntKind.u8 (a:Int)) (Rtype.kind t)) #[.pointer (some ⟨3,175,none⟩)]).run prog w=.ok (.int .u8 25) w:=by kernel_rfl
theorem Tryz.elemTP(w:World):(ReflectliteType.method ReflectliteType.elem #[.agg #[.pointer (some ⟨3,181,none⟩)]]).run prog w=.ok (.iface 257 (.agg #[.pointer (some ⟨3,175,none⟩)])) w:=by kernel_rfl
theorem Tryz.implS(w : World) : (ReflectliteType.relation "Implements" ReflectliteType.implements_ #[.agg #[.pointer (some ⟨3, 175, none⟩)], .iface 257 (.agg #[.pointer (some ⟨3, 131, none⟩)])]).run prog w = .ok (.bool true) w := by kernel_rfl
theorem Tryz.typeOfS(v:Value)(w:World):(ReflectliteType.typeOf #[.iface 175 v]).run prog w=.ok (.iface 257 (.agg #[.pointer (some ⟨3,175,none⟩)])) w:=by kernel_rfl
theorem Tryz.assignS(w : World) : (ReflectliteType.relation "AssignableTo" ReflectliteType.assignableTo #[.agg #[.pointer (some ⟨3, 175, none⟩)], .iface 257 (.agg #[.pointer (some ⟨3, 175, none⟩)])]).run prog w = .ok (.bool true) w := by kernel_rfl
theorem Tryz.partsP(a:Addr)(w:World):(ReflectliteValue.parts (.agg #[.pointer (some ⟨3,181,none⟩),.pointer (some a),.int .u64 150])).run prog w=.ok (some (181,a,150)) w:=by kernel_rfl
theorem Tryz.elemOfP(w:World):(Rtype.elem? 181).run prog w=.ok (some 175) w:=by kernel_rfl
theorem Tryz.mkS(p:Addr)(w:World):(ReflectliteValue.mk 175 p ReflectliteValue.flagAddr).run prog w=.ok (.agg #[.pointer (some ⟨3,175,none⟩),.pointer (some p),.int .u64 409]) w:=by kernel_rfl
theorem Tryz.partsSa(a:Addr)(w:World):(ReflectliteValue.parts (.agg #[.pointer (some ⟨3,175,none⟩),.pointer (some a),.int .u64 409])).run prog w=.ok (some (175,a,409)) w:=by kernel_rfl
theorem Tryz.partsS(a:Addr)(w:World):(ReflectliteValue.parts (.agg #[.pointer (some ⟨3,175,none⟩),.pointer (some a),.int .u64 153])).run prog w=.ok (some (175,a,153)) w:=by kernel_rfl
theorem Tryz.directS(w:World):(Rtype.directlyAssignable 175 175).run prog w=.ok true w:=by kernel_rfl
theorem QpM{motive:Array Value->Sort _}(v:Value)(h1:(v:Value)->motive #[v])(h2:(x:Array Value)->motive x):ReflectliteValue.method.match_2 motive #[v] h1 h2=h1 v:=rfl
theorem QrJ{motive:Array Value->Sort _}(v x:Value)(h1:(v x:Value)->motive #[v,x])(h2:(x:Array Value)->motive x):ReflectliteValue.set.match_3 motive #[v,x] h1 h2=h1 v x:=rfl
theorem Tryz.isNilP(a p:Addr)(W:World)(ha:W.cell? a=some (.pointer (some p))):
  (ReflectliteValue.method (ReflectliteValue.valueError "reflectlite.Value.IsNil" 0) ReflectliteValue.isNil #[.agg #[.pointer (some ⟨3, 181, none⟩), .pointer (some a), .int .u64 150]]).run prog W = .ok (.bool false) W := by
 unfold ReflectliteValue.method
 rw [QpM]
 simp only [Sem.run_bind]
 have h:=Tryz.partsP a W
 simp [h,Result.andThen,ReflectliteValue.isNil,loadVar,isAgg,underlying,underlying181,ha]
theorem Tryz.elemVP(a p:Addr)(W:World)(ha:W.cell? a=some (.pointer (some p))):
  (ReflectliteValue.method (ReflectliteValue.valueError "reflectlite.Value.Elem" 0) ReflectliteValue.elem #[.agg #[.pointer (some ⟨3, 181, none⟩), .pointer (some a), .int .u64 150]]).run prog W
   =.ok (.agg #[.pointer (some ⟨3,175,none⟩),.pointer (some p),.int .u64 409]) W:=by
 unfold ReflectliteValue.method;rw [QpM];simp only [Sem.run_bind];have h:=Tryz.partsP a W;simp [h,Result.andThen,ReflectliteValue.elem,loadVar,isAgg,underlying,underlying181,ha,Tryz.elemOfP,Tryz.mkS]
theorem Tryz.setS(ta b:Addr)(c:Int)(old:Value)(W:World)(hb:W.cell? b=some (.int .i64 c))(ht:W.cell? ta=some old)(hf:W.frozen? ta=false):
  (ReflectliteValue.set #[.agg #[.pointer (some ⟨3,175,none⟩),.pointer (some ta),.int .u64 409],.agg #[.pointer (some ⟨3,175,none⟩),.pointer (some b),.int .u64 153]]).run prog W
   =.ok (.tuple #[]) (W.setCell ta (.int .i64 c)):=by
 unfold ReflectliteValue.set;rw [QrJ];simp only [Sem.run_bind];have J:=Tryz.partsSa ta W;have h2:=Tryz.partsS b W;have h3:=Tryz.directS W;have h4:Sem.run prog (loadCells b 1) W=.ok #[.int .i64 c] W:=run_loadCells_list (P:=prog) W b [.int .i64 c] (by
  intro j u hu;have hj:j=0:=by
   rcases Nat.eq_zero_or_pos j with y|y
   ·exact y
   ·rw [List.getElem?_eq_none du] at hu;cases hu
  subst hj;simp at hu;subst hu;simpa [Addr.add] using hb)
 simp [J,h2,h3,h4,Result.andThen,ReflectliteValue.flagAddr,loadVar,isAgg,underlying,underlying175,storeVar,Value.cells,storeCells,Addr.add];rw [run_store prog W ta _ _ (by rfl)];simp [ht,hf]
section
set_option maxRecDepth 10000
theorem Tryz.mKind(h : Value)(w : World) : (Go.method 421 257 (.agg #[h]) "Kind").run prog w = .ok (231, h) w := by kernel_rfl
theorem Tryz.mElem(h : Value)(w : World) : (Go.method 421 257 (.agg #[h]) "Elem").run prog w = .ok (241, .agg #[h]) w := by kernel_rfl
theorem Tryz.mImpl(h : Value)(w : World) : (Go.method 421 257 (.agg #[h]) "Implements").run prog w = .ok (242, .agg #[h]) w := by kernel_rfl
theorem Tryz.mAssign(h : Value)(w : World) : (Go.method 421 257 (.agg #[h]) "AssignableTo").run prog w = .ok (239, .agg #[h]) w := by kernel_rfl
theorem Qno(c:Int)(t:Addr)(old:Value)(w:World)(hg:w.cell? ⟨1,0,none⟩=some (.iface 257 (.agg #[.pointer (some ⟨3,131,none⟩)])))(ht0:w.cell? t=some old)(hf0:w.frozen? t=false):
  Calls prog 113 #[.iface 175 (.agg #[.int .i64 c]),.iface 181 (.pointer (some t))] w fun ev w'=>ev=.returned (.bool true)∧w'=((((w.alloc (.cells #[.pointer (some t)] 181)).alloc (.cells #[.pointer (some ⟨3,181,none⟩),.pointer (some ⟨w.heap.size,0,none⟩),.int .u64 150] 220)).alloc (.cells #[.pointer (some ⟨3,181,none⟩),.pointer (some ⟨w.heap.size,0,none⟩),.int .u64 150] 220)).alloc (.cells #[.int .i64 c] 175)).setCell t (.int .i64 c):=by
 have h6:=@run_callFunc_extern prog 157 _ (fun args=>ReflectliteValue.unpack (args.getD 0 (.tuple #[]))) func157 dD dD dD dD;have h7 := @run_callFunc_extern prog 158 _ (ReflectliteValue.methodAny (ReflectliteValue.valueError "reflectlite.Value.Type" 0) (fun t _ _ _ => ReflectliteType.toType t)) func158 dD dD dD dD;have h8 := @run_callFunc_extern prog 159 _ (ReflectliteValue.method (ReflectliteValue.valueError "reflectlite.Value.IsNil" 0) ReflectliteValue.isNil) func159 dD dD dD dD;have u:=@run_callFunc_extern prog 187 _ ReflectliteType.typeOf func187 dD dD dD dD;have D := @run_callFunc_extern prog 188 _ (ReflectliteValue.method (ReflectliteValue.valueError "reflectlite.Value.Elem" 0) ReflectliteValue.elem) func188 dD dD dD dD;have o:=@run_callFunc_extern prog 189 _ ReflectliteValue.set func189 dD dD dD dD;have e:=@run_callFunc_extern prog 231 _ (ReflectliteType.abiMethod fun t=>do pure (.int .u8 (←Rtype.kind t))) func231 dD dD dD dD;have h:=@run_callFunc_extern prog 241 _ (ReflectliteType.method ReflectliteType.elem) func241 dD dD dD dD;have l := @run_callFunc_extern prog 242 _ (ReflectliteType.relation "Implements" ReflectliteType.implements_) func242 dD dD dD dD;have b := @run_callFunc_extern prog 239 _ (ReflectliteType.relation "AssignableTo" ReflectliteType.assignableTo) func239 dD dD dD dD;have x:=Tryz.typeOfS;have q:=Tryz.mKind;have p:=Tryz.mElem;have n:=Tryz.mImpl;have v:=Tryz.mAssign;have ab:1<w.heap.size:=World.block_lt_of_cell? w _ hg;have j:t.block<w.heap.size:=World.block_lt_of_cell? w _ ht0;have r:=Tryz.isNilP ⟨w.heap.size,0,none⟩ t ((w.alloc (.cells #[.pointer (some t)] 181)).alloc (.cells #[.pointer (some ⟨3,181,none⟩),.pointer (some ⟨w.heap.size,0,none⟩),.int .u64 150] 220)) dr;have ag:((w.alloc (.cells #[.pointer (some t)] 181)).alloc (.cells #[.pointer (some ⟨3,181,none⟩),.pointer (some ⟨w.heap.size,0,none⟩),.int .u64 150] 220)).cell? ⟨1,0,none⟩=some (.iface 257 (.agg #[.pointer (some ⟨3,131,none⟩)])):=by
  rw [World.cell?_alloc_lt _ _ ⟨1,0,none⟩ dB,World.cell?_alloc_lt _ _ ⟨1,0,none⟩ ab];exact hg
 have O:=Tryz.elemVP ⟨w.heap.size,0,none⟩ t (((w.alloc (.cells #[.pointer (some t)] 181)).alloc (.cells #[.pointer (some ⟨3,181,none⟩),.pointer (some ⟨w.heap.size,0,none⟩),.int .u64 150] 220)).alloc (.cells #[.pointer (some ⟨3,181,none⟩),.pointer (some ⟨w.heap.size,0,none⟩),.int .u64 150] 220)) (by rw [World.cell?_alloc_lt _ _ ⟨w.heap.size,0,none⟩ du];simp);have s:=Tryz.setS t ⟨w.heap.size+1+1+1,0,none⟩ c old ((((w.alloc (.cells #[.pointer (some t)] 181)).alloc (.cells #[.pointer (some ⟨3,181,none⟩),.pointer (some ⟨w.heap.size,0,none⟩),.int .u64 150] 220)).alloc (.cells #[.pointer (some ⟨3,181,none⟩),.pointer (some ⟨w.heap.size,0,none⟩),.int .u64 150] 220)).alloc (.cells #[.int .i64 c] 175))
  (by rw [World.cell?_alloc_at _ _ _ _ dr];rfl)
  (by rw [World.cell?_alloc_lt _ _ t du,World.cell?_alloc_lt _ _ t du,World.cell?_alloc_lt _ _ t du,World.cell?_alloc_lt _ _ t j];exact ht0)
  (by rw [World.frozen?_alloc_old _ _ t du,World.frozen?_alloc_old _ _ t du,World.frozen?_alloc_old _ _ t du,World.frozen?_alloc_old _ _ t (Nat.ne_of_lt j)];exact hf0)
 have m:=Tryz.assignS;have f:=Tryz.valueOfS;have a:=Tryz.valueOfP;have f7:=Tryz.typeP;have k:=Tryz.kindP;have g:=Tryz.kindS;have i:=Tryz.elemTP;have d:=Tryz.implS;go_enter func113,ntmps113;go_wp2;refine wp_loop_rounds 1 ?_;rw [rounds_succ];go_wp2;go_ret;exact d6
end
end Go.Proofs.YtgginbpmebgkcaaGreatDoor
