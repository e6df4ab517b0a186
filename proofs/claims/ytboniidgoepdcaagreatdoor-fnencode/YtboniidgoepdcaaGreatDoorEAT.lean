import Derived.Test.YtboniidgoepdcaaGreatDoorProg
import Derived.WalkKit
import Derived.LaidEql
import Derived.Stop.Asserts
import Derived.RowKitTokens
import Derived.Test.YtboniidgoepdcaaGreatDoorEAS
namespace Go.Proofs.YtboniidgoepdcaaGreatDoor
open Go.RowKit
attribute [local go_sem ↓] Go.wp_at_zero Go.wp_at_succ
set_option linter.unusedVariables false

theorem hideM {p : Prop} (h : p) : Hid p := h
theorem bnum_drop (zs : List Int) (hz : Octets zs) (k : Nat) (hk : k ≤ zs.length) : bnum (zs.drop k) = bnum zs / 256 ^ k := by
  have h := bnum_append (zs.take k) (zs.drop k)
  rw [List.take_append_drop] at h
  have hl : (zs.take k).length = k := by rw [List.length_take]; omega
  have hb := bnum_lt (zs.take k) (hz.take k)
  rw [hl] at h hb
  rw [h, Nat.add_mul_div_left _ _ (Nat.pow_pos (by decide)), Nat.div_eq_of_lt hb, Nat.zero_add]
theorem field_drop (zs : List Int) (hz : Octets zs) (i n : Nat) (hi : i ≤ 8 * zs.length) : field (bnum (zs.drop (i / 8))) (i % 8) n = field (bnum zs) i n := by
  unfold field
  rw [bnum_drop zs hz (i / 8) (by omega), two56, Nat.div_div_eq_div_mul, ← Nat.pow_add, show 8 * (i / 8) + i % 8 = i from by omega]
/-- A source in block p that has read i bits of zs; its bytes lie in block hB. -/
structure Rd (w : World) (p hB : Nat) (zs : List Int) (i : Nat) : Prop where
  le : i ≤ 8 * zs.length
  ne : hB ≠ p
  src : ∃ ao cap, Src w p (.slice ao (zs.drop (i / 8)).length cap) ((i % 8 : Nat) : Int) (i : Int) ∧ Row w ao (zs.drop (i / 8)) ∧ (zs.drop (i / 8)).length ≤ cap ∧ ∀ ad, ao = some ad → ad.block = hB
theorem Rd.lt {w : World} {p hB : Nat} {zs : List Int} {i : Nat} (h : Rd w p hB zs i) : p < w.heap.size := by
  obtain ⟨_, _, ao, cap, hs, _⟩ := h
  exact World.block_lt_of_cell? w _ hs.1
theorem Rd.grown {w w' : World} {p hB : Nat} {zs : List Int} {i : Nat} {row : Option Nat} (h : Rd w p hB zs i) (hg : w.grownBy w' row) (hp : some p ≠ row) (hr : some hB ≠ row) : Rd w' p hB zs i := by
  obtain ⟨hl, hne, ao, cap, hs, h1, h2, h3⟩ := h
  exact ⟨hl, hne, ao, cap, hs.grown hg hp, h1.grown hg (fun ad e => by rw [h3 ad e]; exact hr), h2, h3⟩
theorem Rd.below {w w' : World} {p hB : Nat} {zs : List Int} {i : Nat} (h : Rd w p hB zs i) (hb : Below w.heap.size w w') : Rd w' p hB zs i := by
  obtain ⟨hl, hne, ao, cap, hs, h1, h2, h3⟩ := h
  exact ⟨hl, hne, ao, cap, hs.grown (grownBy_of_below hb none) (by simp), h1.below hb, h2, h3⟩
theorem Rd.vld {zs : List Int} {i : Nat} (hl : i ≤ 8 * zs.length) (hz : zs.length ≤ 65536) : vld (zs.drop (i / 8)).length ((i % 8 : Nat) : Int) (i : Int) = true := by
  refine (vld_true ?_).symm
  rw [List.length_drop]
  refine ⟨by omega, by omega, ?_, by omega, by omega, by omega, by omega⟩
  by_cases h : i % 8 = 0
  · left; omega
  · right; omega
theorem add_block (a : Addr) (k : Nat) : (a.add k).block = a.block := by
  unfold Addr.add
  split <;> rfl
theorem cutAt_block {ao : Option Addr} {cap k : Nat} {ad : Addr} (e : cutAt ao cap k = some ad) : ∃ a, ao = some a ∧ ad.block = a.block := by
  unfold cutAt at e
  split at e
  · exact ⟨ad, e, rfl⟩
  · cases ao with
    | none => cases e
    | some a =>
      refine ⟨a, rfl, ?_⟩
      rw [Option.map_some, Option.some.injEq] at e
      rw [← e]
      exact add_block a k
theorem Rd.moved {w w' : World} {p hB : Nat} {zs : List Int} {i n : Nat} {ao : Option Addr} {cap : Nat} (hn : i + n ≤ 8 * zs.length)
    (hs' : Src w' p (.slice (cutAt ao cap ((((i % 8 : Nat) : Int) + (n : Int)) / 8).toNat) ((zs.drop (i / 8)).length - ((((i % 8 : Nat) : Int) + (n : Int)) / 8).toNat) (cap - ((((i % 8 : Nat) : Int) + (n : Int)) / 8).toNat)) ((((i % 8 : Nat) : Int) + (n : Int)) % 8) ((i : Int) + (n : Int)))
    (hr : Row w ao (zs.drop (i / 8))) (hc : (zs.drop (i / 8)).length ≤ cap) (hne : hB ≠ p) (hb : ∀ ad, ao = some ad → ad.block = hB) (hg : w.grownBy w' (some p)) : Rd w' p hB zs (i + n) := by
  have hk : ((((i % 8 : Nat) : Int) + (n : Int)) / 8).toNat = (i % 8 + n) / 8 := by omega
  have hd : (zs.drop (i / 8)).drop ((i % 8 + n) / 8) = zs.drop ((i + n) / 8) := by rw [List.drop_drop]; congr 1; omega
  refine ⟨hn, hne, cutAt ao cap ((i % 8 + n) / 8), cap - (i % 8 + n) / 8, ?_, ?_, ?_, ?_⟩
  · rw [hk] at hs'
    rw [← hd, List.length_drop]
    rw [show ((((i + n) % 8 : Nat)) : Int) = (((i % 8 : Nat) : Int) + (n : Int)) % 8 from by omega, show ((i + n : Nat) : Int) = (i : Int) + (n : Int) from by omega]
    exact hs'
  · rw [← hd]
    exact (hr.cut hc).grown hg (fun ad e he => by
      obtain ⟨a, e1, e2⟩ := cutAt_block e
      exact hne (by rw [← hb a e1, ← e2]; simpa using he))
  · rw [← hd, List.length_drop]; omega
  · intro ad e
    obtain ⟨a, e1, e2⟩ := cutAt_block e
    rw [e2]
    exact hb a e1
/-- take of n bits that are there. -/
theorem rd_take (p hB : Nat) (zs : List Int) (i n : Nat) (w : World) (h : Rd w p hB zs i) (hz : Octets zs) (hzl : zs.length ≤ 65536) (n1 : n ≤ 32) (hn : i + n ≤ 8 * zs.length) :
    Calls Tryz.prog 59 #[.agg #[.pointer (some ⟨p, 0, none⟩)], .int .i64 n] w fun e w' => e = .returned (.tuple #[.int .u64 (field (bnum zs) i n : Nat), .bool true]) ∧ Rd w' p hB zs (i + n) ∧ w.grownBy w' (some p) := by
  obtain ⟨hl, hne, ao, cap, hs, hr, hc, hb⟩ := h
  have hh : hasB (zs.drop (i / 8)).length ((i % 8 : Nat) : Int) (i : Int) (n : Int) = true := by
    rw [List.length_drop, ← hasB_yes (by omega)]
    exact decide_eq_true (by omega)
  refine Calls.mono (take_yes p ao cap (zs.drop (i / 8)) ((i % 8 : Nat) : Int) (i : Int) n w hs hr (hz.drop _) hc (Rd.vld hl hzl) n1 hh) ?_
  rintro e w' ⟨rfl, hs', hg⟩
  exact ⟨by rw [Int.toNat_natCast, field_drop zs hz i n hl], Rd.moved hn hs' hr hc hne hb hg, hg⟩
/-- take of n bits that are not all there. -/
theorem rd_take_no (p hB : Nat) (zs : List Int) (i n : Nat) (w : World) (h : Rd w p hB zs i) (hzl : zs.length ≤ 65536) (n1 : n ≤ 32) (hn : ¬ i + n ≤ 8 * zs.length) :
    Calls Tryz.prog 59 #[.agg #[.pointer (some ⟨p, 0, none⟩)], .int .i64 n] w fun e w' => e = .returned (.tuple #[.int .u64 0, .bool false]) ∧ Below w.heap.size w w' := by
  obtain ⟨hl, hne, ao, cap, hs, hr, hc, hb⟩ := h
  refine take_no p ao (zs.drop (i / 8)).length cap ((i % 8 : Nat) : Int) (i : Int) n w hs (Rd.vld hl hzl) (.inr (.inr ⟨by omega, by omega, ?_⟩))
  exact (hasB_no (by rw [List.length_drop]; omega)).symm
end Go.Proofs.YtboniidgoepdcaaGreatDoor
namespace Go.Proofs.YtboniidgoepdcaaGreatDoor
open Go.RowKit Go.Extern.Stop Go.Stop Go.Extern
set_option linter.unusedVariables false

theorem Tryz.valueOfP (t : Addr) (w : World) : (ReflectliteValue.unpack (.iface 111 (.pointer (some t)))).run Tryz.prog w
    = .ok (.agg #[.pointer (some ⟨2, 111, none⟩), .pointer (some ⟨w.heap.size, 0, none⟩), .int .u64 150]) (w.alloc (.cells #[.pointer (some t)] 111)) := by kernel_rfl
theorem Tryz.valueOfS (c : Int) (w : World) : (ReflectliteValue.unpack (.iface 105 (.agg #[.int .i64 c]))).run Tryz.prog w
    = .ok (.agg #[.pointer (some ⟨2, 105, none⟩), .pointer (some ⟨w.heap.size, 0, none⟩), .int .u64 153]) (w.alloc (.cells #[.int .i64 c] 105)) := by kernel_rfl
theorem Tryz.typeP (a : Addr) (w : World) : (ReflectliteValue.methodAny (ReflectliteValue.valueError "reflectlite.Value.Type" 0) (fun t _ _ _ => ReflectliteType.toType t) #[.agg #[.pointer (some ⟨2, 111, none⟩), .pointer (some a), .int .u64 150]]).run Tryz.prog w
    = .ok (.iface 160 (.agg #[.pointer (some ⟨2, 111, none⟩)])) w := by kernel_rfl
theorem Tryz.kindP (w : World) : ((ReflectliteType.abiMethod fun t => Functor.map (fun a : Nat => Value.int IntKind.u8 (a : Int)) (Rtype.kind t)) #[.pointer (some ⟨2, 111, none⟩)]).run Tryz.prog w = .ok (.int .u8 22) w := by kernel_rfl
theorem Tryz.kindS (w : World) : ((ReflectliteType.abiMethod fun t => Functor.map (fun a : Nat => Value.int IntKind.u8 (a : Int)) (Rtype.kind t)) #[.pointer (some ⟨2, 105, none⟩)]).run Tryz.prog w = .ok (.int .u8 25) w := by kernel_rfl
theorem Tryz.elemTP (w : World) : (ReflectliteType.method ReflectliteType.elem #[.agg #[.pointer (some ⟨2, 111, none⟩)]]).run Tryz.prog w = .ok (.iface 160 (.agg #[.pointer (some ⟨2, 105, none⟩)])) w := by kernel_rfl
theorem Tryz.implS (w : World) : (ReflectliteType.relation "Implements" ReflectliteType.implements_ #[.agg #[.pointer (some ⟨2, 105, none⟩)], .iface 160 (.agg #[.pointer (some ⟨2, 84, none⟩)])]).run Tryz.prog w = .ok (.bool true) w := by kernel_rfl
theorem Tryz.typeOfS (v : Value) (w : World) : (ReflectliteType.typeOf #[.iface 105 v]).run Tryz.prog w = .ok (.iface 160 (.agg #[.pointer (some ⟨2, 105, none⟩)])) w := by kernel_rfl
theorem Tryz.assignS (w : World) : (ReflectliteType.relation "AssignableTo" ReflectliteType.assignableTo #[.agg #[.pointer (some ⟨2, 105, none⟩)], .iface 160 (.agg #[.pointer (some ⟨2, 105, none⟩)])]).run Tryz.prog w = .ok (.bool true) w := by kernel_rfl
theorem Tryz.partsP (a : Addr) (w : World) : (ReflectliteValue.parts (.agg #[.pointer (some ⟨2, 111, none⟩), .pointer (some a), .int .u64 150])).run Tryz.prog w = .ok (some (111, a, 150)) w := by kernel_rfl
theorem Tryz.elemOfP (w : World) : (Rtype.elem? 111).run Tryz.prog w = .ok (some 105) w := by kernel_rfl
theorem Tryz.mkS (p : Addr) (w : World) : (ReflectliteValue.mk 105 p ReflectliteValue.flagAddr).run Tryz.prog w = .ok (.agg #[.pointer (some ⟨2, 105, none⟩), .pointer (some p), .int .u64 409]) w := by kernel_rfl
theorem Tryz.partsSa (a : Addr) (w : World) : (ReflectliteValue.parts (.agg #[.pointer (some ⟨2, 105, none⟩), .pointer (some a), .int .u64 409])).run Tryz.prog w = .ok (some (105, a, 409)) w := by kernel_rfl
theorem Tryz.partsS (a : Addr) (w : World) : (ReflectliteValue.parts (.agg #[.pointer (some ⟨2, 105, none⟩), .pointer (some a), .int .u64 153])).run Tryz.prog w = .ok (some (105, a, 153)) w := by kernel_rfl
theorem Tryz.directS (w : World) : (Rtype.directlyAssignable 105 105).run Tryz.prog w = .ok true w := by kernel_rfl
theorem Tryz.sizeS (w : World) : (sizeOf 105).run Tryz.prog w = .ok 1 w := by kernel_rfl
theorem m_one {motive : Array Value → Sort _} (v : Value) (h1 : (v : Value) → motive #[v]) (h2 : (x : Array Value) → motive x) : ReflectliteValue.method.match_2 motive #[v] h1 h2 = h1 v := rfl
theorem m_two {motive : Array Value → Sort _} (v x : Value) (h1 : (v x : Value) → motive #[v, x]) (h2 : (x : Array Value) → motive x) : ReflectliteValue.set.match_3 motive #[v, x] h1 h2 = h1 v x := rfl
theorem Tryz.isNilP (a p : Addr) (W : World) (ha : W.cell? a = some (.pointer (some p))) :
    (ReflectliteValue.method (ReflectliteValue.valueError "reflectlite.Value.IsNil" 0) ReflectliteValue.isNil #[.agg #[.pointer (some ⟨2, 111, none⟩), .pointer (some a), .int .u64 150]]).run Tryz.prog W = .ok (.bool false) W := by
  unfold ReflectliteValue.method
  rw [m_one]
  simp only [Sem.run_bind]
  have h := Tryz.partsP a W
  simp [h, Result.andThen, ReflectliteValue.isNil, loadVar, isAgg, underlying, Tryz.underlying111, ha]
theorem Tryz.elemVP (a p : Addr) (W : World) (ha : W.cell? a = some (.pointer (some p))) :
    (ReflectliteValue.method (ReflectliteValue.valueError "reflectlite.Value.Elem" 0) ReflectliteValue.elem #[.agg #[.pointer (some ⟨2, 111, none⟩), .pointer (some a), .int .u64 150]]).run Tryz.prog W
      = .ok (.agg #[.pointer (some ⟨2, 105, none⟩), .pointer (some p), .int .u64 409]) W := by
  unfold ReflectliteValue.method
  rw [m_one]
  simp only [Sem.run_bind]
  have h := Tryz.partsP a W
  simp [h, Result.andThen, ReflectliteValue.elem, loadVar, isAgg, underlying, Tryz.underlying111, ha, Tryz.elemOfP, Tryz.mkS]
theorem Tryz.setS (ta b : Addr) (c : Int) (old : Value) (W : World) (hb : W.cell? b = some (.int .i64 c)) (ht : W.cell? ta = some old) (hf : W.frozen? ta = false) :
    (ReflectliteValue.set #[.agg #[.pointer (some ⟨2, 105, none⟩), .pointer (some ta), .int .u64 409], .agg #[.pointer (some ⟨2, 105, none⟩), .pointer (some b), .int .u64 153]]).run Tryz.prog W
      = .ok (.tuple #[]) (W.setCell ta (.int .i64 c)) := by
  unfold ReflectliteValue.set
  rw [m_two]
  simp only [Sem.run_bind]
  have h1 := Tryz.partsSa ta W
  have h2 := Tryz.partsS b W
  have h3 := Tryz.directS W
  have h4 : Sem.run Tryz.prog (loadCells b 1) W = .ok #[.int .i64 c] W := run_loadCells_list (P := Tryz.prog) W b [.int .i64 c] (by
    intro j u hu
    have hj : j = 0 := by
      rcases Nat.eq_zero_or_pos j with h' | h'
      · exact h'
      · rw [List.getElem?_eq_none (by simp; omega)] at hu; cases hu
    subst hj
    simp at hu
    subst hu
    simpa [Addr.add] using hb)
  simp [h1, h2, h3, h4, Result.andThen, ReflectliteValue.flagAddr, loadVar, isAgg, underlying, Tryz.underlying105, storeVar, Value.cells, storeCells, Addr.add]
  rw [run_store Tryz.prog W ta _ _ (by rfl)]
  simp [ht, hf]
end Go.Proofs.YtboniidgoepdcaaGreatDoor
namespace Go.Proofs.YtboniidgoepdcaaGreatDoor
open Go.RowKit Go.Extern.Stop Go.Stop Go.Extern
set_option linter.unusedVariables false

theorem Tryz.mKind (h : Value) (w : World) : (Go.method 312 160 (.agg #[h]) "Kind").run Tryz.prog w = .ok (114, h) w := by kernel_rfl
theorem Tryz.mElem (h : Value) (w : World) : (Go.method 312 160 (.agg #[h]) "Elem").run Tryz.prog w = .ok (124, .agg #[h]) w := by kernel_rfl
theorem Tryz.mImpl (h : Value) (w : World) : (Go.method 312 160 (.agg #[h]) "Implements").run Tryz.prog w = .ok (125, .agg #[h]) w := by kernel_rfl
theorem Tryz.mAssign (h : Value) (w : World) : (Go.method 312 160 (.agg #[h]) "AssignableTo").run Tryz.prog w = .ok (122, .agg #[h]) w := by kernel_rfl
set_option maxRecDepth 10000 in
set_option maxHeartbeats 4000000 in
theorem as_fault (c : Int) (t : Addr) (old : Value) (w : World) (hg : w.cell? ⟨0, 0, none⟩ = some (.iface 160 (.agg #[.pointer (some ⟨2, 84, none⟩)]))) (ht0 : w.cell? t = some old) (hf0 : w.frozen? t = false) :
    Calls Tryz.prog 53 #[.iface 105 (.agg #[.int .i64 c]), .iface 111 (.pointer (some t))] w fun ev w' => ev = .returned (.bool true) ∧ w' = ((((w.alloc (.cells #[.pointer (some t)] 111)).alloc (.cells #[.pointer (some ⟨2, 111, none⟩), .pointer (some ⟨w.heap.size, 0, none⟩), .int .u64 150] 129)).alloc (.cells #[.pointer (some ⟨2, 111, none⟩), .pointer (some ⟨w.heap.size, 0, none⟩), .int .u64 150] 129)).alloc (.cells #[.int .i64 c] 105)).setCell t (.int .i64 c) := by
  have h6 := @run_callFunc_extern Tryz.prog 71 _ (fun args => ReflectliteValue.unpack (args.getD 0 (.tuple #[]))) Tryz.func71 (by kernel_rfl) (by kernel_rfl) (by kernel_rfl) (by kernel_rfl)
  have h7 := @run_callFunc_extern Tryz.prog 72 _ (ReflectliteValue.methodAny (ReflectliteValue.valueError "reflectlite.Value.Type" 0) (fun t _ _ _ => ReflectliteType.toType t)) Tryz.func72 (by kernel_rfl) (by kernel_rfl) (by kernel_rfl) (by kernel_rfl)
  have h8 := @run_callFunc_extern Tryz.prog 73 _ (ReflectliteValue.method (ReflectliteValue.valueError "reflectlite.Value.IsNil" 0) ReflectliteValue.isNil) Tryz.func73 (by kernel_rfl) (by kernel_rfl) (by kernel_rfl) (by kernel_rfl)
  have h10 := @run_callFunc_extern Tryz.prog 84 _ ReflectliteType.typeOf Tryz.func84 (by kernel_rfl) (by kernel_rfl) (by kernel_rfl) (by kernel_rfl)
  have h11 := @run_callFunc_extern Tryz.prog 85 _ (ReflectliteValue.method (ReflectliteValue.valueError "reflectlite.Value.Elem" 0) ReflectliteValue.elem) Tryz.func85 (by kernel_rfl) (by kernel_rfl) (by kernel_rfl) (by kernel_rfl)
  have h12 := @run_callFunc_extern Tryz.prog 86 _ ReflectliteValue.set Tryz.func86 (by kernel_rfl) (by kernel_rfl) (by kernel_rfl) (by kernel_rfl)
  have h27 := @run_callFunc_extern Tryz.prog 114 _ (ReflectliteType.abiMethod fun t => do pure (.int .u8 (← Rtype.kind t))) Tryz.func114 (by kernel_rfl) (by kernel_rfl) (by kernel_rfl) (by kernel_rfl)
  have h37 := @run_callFunc_extern Tryz.prog 124 _ (ReflectliteType.method ReflectliteType.elem) Tryz.func124 (by kernel_rfl) (by kernel_rfl) (by kernel_rfl) (by kernel_rfl)
  have h38 := @run_callFunc_extern Tryz.prog 125 _ (ReflectliteType.relation "Implements" ReflectliteType.implements_) Tryz.func125 (by kernel_rfl) (by kernel_rfl) (by kernel_rfl) (by kernel_rfl)
  have h35 := @run_callFunc_extern Tryz.prog 122 _ (ReflectliteType.relation "AssignableTo" ReflectliteType.assignableTo) Tryz.func122 (by kernel_rfl) (by kernel_rfl) (by kernel_rfl) (by kernel_rfl)
  have tO := Tryz.typeOfS
  have mK := Tryz.mKind
  have mE := Tryz.mElem
  have mI := Tryz.mImpl
  have mA := Tryz.mAssign
  have hlt : 0 < w.heap.size := World.block_lt_of_cell? w _ hg
  have htl : t.block < w.heap.size := World.block_lt_of_cell? w _ ht0
  have n8 := Tryz.isNilP ⟨w.heap.size, 0, none⟩ t ((w.alloc (.cells #[.pointer (some t)] 111)).alloc (.cells #[.pointer (some ⟨2, 111, none⟩), .pointer (some ⟨w.heap.size, 0, none⟩), .int .u64 150] 129)) (by simp)
  have hg2 : ((w.alloc (.cells #[.pointer (some t)] 111)).alloc (.cells #[.pointer (some ⟨2, 111, none⟩), .pointer (some ⟨w.heap.size, 0, none⟩), .int .u64 150] 129)).cell? ⟨0, 0, none⟩ = some (.iface 160 (.agg #[.pointer (some ⟨2, 84, none⟩)])) := by
    rw [World.cell?_alloc_lt _ _ ⟨0, 0, none⟩ (by first | (simp; done) | (simp; omega)), World.cell?_alloc_lt _ _ ⟨0, 0, none⟩ hlt]; exact hg
  have el := Tryz.elemVP ⟨w.heap.size, 0, none⟩ t (((w.alloc (.cells #[.pointer (some t)] 111)).alloc (.cells #[.pointer (some ⟨2, 111, none⟩), .pointer (some ⟨w.heap.size, 0, none⟩), .int .u64 150] 129)).alloc (.cells #[.pointer (some ⟨2, 111, none⟩), .pointer (some ⟨w.heap.size, 0, none⟩), .int .u64 150] 129)) (by rw [World.cell?_alloc_lt _ _ ⟨w.heap.size, 0, none⟩ (by simp; omega)]; simp)
  have st := Tryz.setS t ⟨w.heap.size + 1 + 1 + 1, 0, none⟩ c old ((((w.alloc (.cells #[.pointer (some t)] 111)).alloc (.cells #[.pointer (some ⟨2, 111, none⟩), .pointer (some ⟨w.heap.size, 0, none⟩), .int .u64 150] 129)).alloc (.cells #[.pointer (some ⟨2, 111, none⟩), .pointer (some ⟨w.heap.size, 0, none⟩), .int .u64 150] 129)).alloc (.cells #[.int .i64 c] 105))
    (by rw [World.cell?_alloc_at _ _ _ _ (by simp)]; rfl)
    (by rw [World.cell?_alloc_lt _ _ t (by simp; omega), World.cell?_alloc_lt _ _ t (by simp; omega), World.cell?_alloc_lt _ _ t (by simp; omega), World.cell?_alloc_lt _ _ t htl]; exact ht0)
    (by rw [World.frozen?_alloc_old _ _ t (by simp; omega), World.frozen?_alloc_old _ _ t (by simp; omega), World.frozen?_alloc_old _ _ t (by simp; omega), World.frozen?_alloc_old _ _ t (Nat.ne_of_lt htl)]; exact hf0)
  have a25 := Tryz.assignS
  have v25 := Tryz.valueOfS
  have f6 := Tryz.valueOfP
  have f7 := Tryz.typeP
  have k27 := Tryz.kindP
  have k25 := Tryz.kindS
  have e27 := Tryz.elemTP
  have i25 := Tryz.implS
  go_enter Tryz.func53, Tryz.ntmps53
  go_wp2
  refine wp_loop_rounds 1 ?_
  rw [rounds_succ]
  go_wp2
  go_ret
  exact ⟨rfl, rfl⟩
end Go.Proofs.YtboniidgoepdcaaGreatDoor
namespace Go.Proofs.YtboniidgoepdcaaGreatDoor
open Go.RowKit
attribute [local go_sem ↓] Go.wp_at_zero Go.wp_at_succ
set_option linter.unusedVariables false

/-- A fault as an error. -/
def flt (c : Int) : Value := .iface 105 (.agg #[.int .i64 c])
set_option maxHeartbeats 3200000 in
theorem number_yes (q p hB : Nat) (zs : List Int) (i n : Nat) (w : World) (hm : w.cell? ⟨q, 0, none⟩ = some (.pointer (some ⟨p, 0, none⟩))) (h : Rd w p hB zs i) (hz : Octets zs) (hzl : zs.length ≤ 65536) (n1 : n ≤ 32) (hn : i + n ≤ 8 * zs.length) :
    Calls Tryz.prog 44 #[.pointer (some ⟨q, 0, none⟩), .int .i64 n] w fun e w' => e = .returned (.tuple #[.int .i64 (field (bnum zs) i n : Nat), .nilIface]) ∧ Rd w' p hB zs (i + n) ∧ w.grownBy w' (some p) := by
  have HT := hideM (rd_take p hB zs i n w h hz hzl n1 hn)
  have hqw := World.block_lt_of_cell? w _ hm
  have hf : field (bnum zs) i n < 2 ^ 32 := Nat.lt_of_lt_of_le (field_lt _ _ _) (Nat.pow_le_pow_right (by decide) n1)
  clear h
  generalize field (bnum zs) i n = F at *
  go_enter Tryz.func44, Tryz.ntmps44
  go_wp2_with fail
  refine Calls.mono HT.out ?_
  rintro e w' ⟨rfl, hR, hg⟩
  have HR := hideM hR
  have HG := hideM hg
  have hw : IntKind.i64.wrap (F : Int) = (F : Int) := by rw [IntKind.wrap_i64]; omega
  clear hR hg HT hf
  go_wp2_with fail
  exact bodyPost_ret (v := .tuple #[.int .i64 F, .nilIface]) (by simp [results, Tryz.results44, go_sem]) rfl ⟨rfl, HR.out, HG.out⟩
set_option maxHeartbeats 3200000 in
theorem number_no (q p hB : Nat) (zs : List Int) (i n : Nat) (w : World) (hm : w.cell? ⟨q, 0, none⟩ = some (.pointer (some ⟨p, 0, none⟩))) (h : Rd w p hB zs i) (hzl : zs.length ≤ 65536) (n1 : n ≤ 32) (hn : ¬ i + n ≤ 8 * zs.length) :
    Calls Tryz.prog 44 #[.pointer (some ⟨q, 0, none⟩), .int .i64 n] w fun e w' => e = .returned (.tuple #[.int .i64 0, flt 2]) ∧ Below w.heap.size w w' := by
  have HT := hideM (rd_take_no p hB zs i n w h hzl n1 hn)
  have hqw := World.block_lt_of_cell? w _ hm
  clear h
  go_enter Tryz.func44, Tryz.ntmps44
  go_wp2_with fail
  refine Calls.mono HT.out ?_
  rintro e w' ⟨rfl, hb⟩
  have HB := hideM hb
  clear hb HT
  go_wp2_with fail
  exact bodyPost_ret (v := .tuple #[.int .i64 0, flt 2]) (by simp [results, Tryz.results44, go_sem, flt]) rfl ⟨rfl, HB.out⟩
/-- A function value stored in one cell. -/
theorem store_func (W : World) (a : Addr) (f : Fn) (x y : Array Value) (old : Value) (h : W.cell? a = some old) (hf : W.frozen? a = false) : Sem.run Tryz.prog (store a (.func f x y)) W = .ok () (W.setCell a (.func f x y)) := by
  rw [run_store Tryz.prog W a _ _ (by rfl)]
  simp [h, hf]
theorem grownBy_allocs (w : World) (a b c d : Obj) (r : Option Nat) : w.grownBy ((((w.alloc a).alloc b).alloc c).alloc d) r :=
  grownBy_trans (grownBy_trans (grownBy_trans (World.grownBy_alloc w a r) (World.grownBy_alloc _ b r)) (World.grownBy_alloc _ c r)) (World.grownBy_alloc _ d r)
/-- errors.As at a fault: the variable has it, nothing else has turned. -/
theorem as_fault2 (c : Int) (g : Nat) (old : Value) (w : World) (hg : w.cell? ⟨0, 0, none⟩ = some (.iface 160 (.agg #[.pointer (some ⟨2, 84, none⟩)]))) (ht0 : w.cell? ⟨g, 0, none⟩ = some old) (hf0 : w.frozen? ⟨g, 0, none⟩ = false) :
    Calls Tryz.prog 53 #[.iface 105 (.agg #[.int .i64 c]), .iface 111 (.pointer (some ⟨g, 0, none⟩))] w fun ev w' => ev = .returned (.bool true) ∧ w'.cell? ⟨g, 0, none⟩ = some (.int .i64 c) ∧ w.grownBy w' (some g) := by
  refine Calls.mono (as_fault c ⟨g, 0, none⟩ old w hg ht0 hf0) ?_
  rintro e w' ⟨rfl, rfl⟩
  have h1 := grownBy_allocs w (.cells #[.pointer (some ⟨g, 0, none⟩)] 111) (.cells #[.pointer (some ⟨2, 111, none⟩), .pointer (some ⟨w.heap.size, 0, none⟩), .int .u64 150] 129) (.cells #[.pointer (some ⟨2, 111, none⟩), .pointer (some ⟨w.heap.size, 0, none⟩), .int .u64 150] 129) (.cells #[.int .i64 c] 105)
  refine ⟨rfl, ?_, grownBy_trans (h1 _) (grownBy_setCell _ ⟨g, 0, none⟩ _)⟩
  exact World.cell?_setCell_same _ _ _ ((h1 none).cell ht0 (by simp))
theorem cell_fault (w : World) (c : Int) : ∃ old, (w.alloc (.cells #[.int .i64 c] 105)).cell? ⟨w.heap.size, 0, none⟩ = some old ∧ (w.alloc (.cells #[.int .i64 c] 105)).frozen? ⟨w.heap.size, 0, none⟩ = false := ⟨.int .i64 c, by simp [go_sem], by simp [go_sem]⟩
set_option maxHeartbeats 3200000 in
/-- stopAt where input is missing: the state is kept. -/
theorem stopAt_short (q : Nat) (w : World) (hq : q < w.heap.size) (hg : w.cell? ⟨0, 0, none⟩ = some (.iface 160 (.agg #[.pointer (some ⟨2, 84, none⟩)]))) :
    Calls Tryz.prog 34 #[.pointer (some ⟨q, 0, none⟩), flt 2] w fun e w' => e = .returned (.int .i64 2) ∧ Below w.heap.size w w' := by
  have hlt : 0 < w.heap.size := World.block_lt_of_cell? w _ hg
  obtain ⟨w1, hw1⟩ : ∃ w1, w.alloc (.cells #[.int .i64 0] 105) = w1 := ⟨_, rfl⟩
  have c1 : w1.cell? ⟨w.heap.size, 0, none⟩ = some (.int .i64 0) := by rw [← hw1]; simp [go_sem]
  have f1 : w1.frozen? ⟨w.heap.size, 0, none⟩ = false := by rw [← hw1]; simp [go_sem]
  have g1 : w1.cell? ⟨0, 0, none⟩ = some (.iface 160 (.agg #[.pointer (some ⟨2, 84, none⟩)])) := by rw [← hw1, World.cell?_alloc_lt _ _ ⟨0, 0, none⟩ hlt]; exact hg
  have HA := hideM (as_fault2 2 w.heap.size (.int .i64 0) w1 g1 c1 f1)
  have HB1 : Hid (Below w.heap.size w w1) := by rw [← hw1]; exact (Below.refl _ _).alloc (Nat.le_refl _) _
  have hs1 : w.heap.size < w1.heap.size := World.block_lt_of_cell? w1 _ c1
  clear g1 c1 f1
  unfold flt
  go_enter Tryz.func34, Tryz.ntmps34
  go_wp2_with fail
  refine Calls.mono HA.out ?_
  rintro e w2 ⟨rfl, c2, hg2⟩
  have HB2 := hideM (HB1.out.grown hg2 (Nat.le_of_lt hs1) (fun k e => by simp at e; omega))
  have hs2 := hg2.size
  clear hg2 HA hw1
  go_wp2_with fail
  go_ret
  exact ⟨rfl, HB2.out⟩
set_option maxHeartbeats 3200000 in
/-- stopAt at any other fault: its own state is laid. -/
theorem stopAt_bad (q : Nat) (c : Int) (old : Value) (w : World) (hc : ¬ c = 2) (h1 : w.cell? ⟨q, 1, none⟩ = some old) (hf : w.frozen? ⟨q, 1, none⟩ = false) (hg : w.cell? ⟨0, 0, none⟩ = some (.iface 160 (.agg #[.pointer (some ⟨2, 84, none⟩)]))) :
    Calls Tryz.prog 34 #[.pointer (some ⟨q, 0, none⟩), flt c] w fun e w' => e = .returned (.int .i64 c) ∧ ∃ w2 v, Below w.heap.size w w2 ∧ w' = w2.setCell ⟨q, 1, none⟩ v := by
  have hlt : 0 < w.heap.size := World.block_lt_of_cell? w _ hg
  have hq : q < w.heap.size := World.block_lt_of_cell? w _ h1
  obtain ⟨w1, hw1⟩ : ∃ w1, w.alloc (.cells #[.int .i64 0] 105) = w1 := ⟨_, rfl⟩
  have c1 : w1.cell? ⟨w.heap.size, 0, none⟩ = some (.int .i64 0) := by rw [← hw1]; simp [go_sem]
  have f1 : w1.frozen? ⟨w.heap.size, 0, none⟩ = false := by rw [← hw1]; simp [go_sem]
  have g1 : w1.cell? ⟨0, 0, none⟩ = some (.iface 160 (.agg #[.pointer (some ⟨2, 84, none⟩)])) := by rw [← hw1, World.cell?_alloc_lt _ _ ⟨0, 0, none⟩ hlt]; exact hg
  have HA := hideM (as_fault2 c w.heap.size (.int .i64 0) w1 g1 c1 f1)
  have hB1 : Below w.heap.size w w1 := by rw [← hw1]; exact (Below.refl _ _).alloc (Nat.le_refl _) _
  have hs1 : w.heap.size < w1.heap.size := World.block_lt_of_cell? w1 _ c1
  have HB1 := hideM hB1
  have hcb : (c == 2) = false := by simp [hc]
  have hcn : (c != 2) = true := by simp [hc]
  clear g1 c1 f1 hB1
  unfold flt
  go_enter Tryz.func34, Tryz.ntmps34
  go_wp2_with fail
  refine Calls.mono HA.out ?_
  rintro e w2 ⟨rfl, c2, hg2⟩
  have hB2 := HB1.out.grown hg2 (Nat.le_of_lt hs1) (fun k e => by simp at e; omega)
  have d1 := (hB2.cell (p := ⟨q, 1, none⟩) hq).trans h1
  have e1 := (hB2.frozen (p := ⟨q, 1, none⟩) hq).trans hf
  have HG2 := hideM hB2
  have hs2 := hg2.size
  have hqn : w.heap.size ≠ q := by omega
  have hst := fun x => store_func w2 ⟨q, 1, none⟩ (Fn.func 54) x #[] old d1 e1
  clear hg2 HA hw1 hB2 h1 hf
  go_wp2_with fail
  go_ret
  exact ⟨rfl, _, _, HG2.out, rfl⟩
end Go.Proofs.YtboniidgoepdcaaGreatDoor
