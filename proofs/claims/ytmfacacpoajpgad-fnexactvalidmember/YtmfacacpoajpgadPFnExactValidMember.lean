import Derived.Test.YtmfacacpoajpgadRows
import Derived.Test.YtmfacacpoajpgadLawVM
import Derived.WalkKit
import Derived.ProofKit
import Derived.OpenShut
import Derived.ShutString
import Derived.ChangeOld
import Derived.Below
import Derived.Lib.SmallJoins
namespace Go.Proofs.Ytmfacacpoajpgad.fnExactValidMember
open Go.ChangeShapes Go.WideShapes Go.ChangeAt Go.RowKit Go.Joins
open Go.ChangeMaps (open_string shut_string)
set_option linter.unusedVariables false

theorem own : ownKnob Try.prog.godebug = none := by kernel_rfl
theorem laidOut : laidOutB Try.prog = true := by kernel_rfl

/-- What the walk is told of a slice of bytes that came in. -/
def IsRow (w : World) (a : Option Addr) (cap : Nat) (zs : List Int) : Prop :=
  zs.length ≤ cap ∧ cap ≤ maxLen ∧ (a = none → cap = 0) ∧ Row w a zs ∧ Octets zs

theorem open_row {H : Type} {enc : TypeId × Value → H} {W : World} {base : Nat} {sp : Nat → Bool} {held : Bool} {fuel : Nat} {cs : List Value} {x : DataW H × List MemPlace} (hf : DataW.trod enc Try.prog W base sp held fuel 22 cs = some x) :
    ∃ a cap zs, cs = [.slice a zs.length cap] ∧ IsRow W a cap zs := by
  rcases open_ints Try.underlying22 Try.underlying5 (by kernel_rfl) hf with ⟨hcs, _⟩ | ⟨x, l, c, zs, hcs, _, hl, hm, hz, _, hcell, hwz⟩
  · exact ⟨none, 0, [], hcs, Nat.le_refl _, Nat.zero_le _, fun _ => rfl, Row.nil _ _, fun z hz => by cases hz⟩
  · have hlz : l ≤ zs.length := by rw [hz]; split <;> omega
    have e1 : (zs.take l).length = l := by rw [List.length_take]; omega
    refine ⟨some x, c, zs.take l, by rw [e1]; exact hcs, by rw [e1]; exact hl, hm, fun e => (by cases e), ?_, ?_⟩
    · intro i hi
      rw [e1] at hi
      obtain ⟨b, off, spot⟩ := x
      have hc := hcell i (by omega)
      have hspot : spot = none := by
        have h0 := hcell 0 (by omega)
        simpa [Addr.add] using World.cell?_spot h0
      subst hspot
      refine ⟨b, off, rfl, ?_⟩
      rw [Addr.add_lit] at hc
      rw [hc]
      simp [List.getD, hi]
    · intro z hz
      exact bounds_u8 (hwz z (List.mem_of_mem_take hz))

open Go.Deep in
/-- A struct of eight one-cell fields, opened. -/
theorem open_agg8 {P : Program} {H : Type} {enc : TypeId × Value → H} {W : World} {base : Nat} {sp : Nat → Bool} {held : Bool} {r : Reach} {b0 : Nat} {t : TypeId} {f0 f1 f2 f3 f4 f5 f6 f7 : Field} {v : Value} {d : DataW H} {p : List MemPlace} (hs : P.underlying t = some (.struct #[f0, f1, f2, f3, f4, f5, f6, f7])) (hone : oneCellFields P #[f0, f1, f2, f3, f4, f5, f6, f7] = true) (hC : P.cellsOf t = 8)
    (hv : Value.okWide P W r b0 t v) (h : DataW.Trod enc P W base sp held t v d p) :
    ∃ (v0 v1 v2 v3 v4 v5 v6 v7 : Value) (y0 y1 y2 y3 y4 y5 y6 y7 : DataW H × List MemPlace) (n : Nat), v = .agg #[v0, v1, v2, v3, v4, v5, v6, v7] ∧
      DataW.trod enc P W base sp held n f0.type [v0] = some y0 ∧ DataW.trod enc P W base sp held n f1.type [v1] = some y1 ∧ DataW.trod enc P W base sp held n f2.type [v2] = some y2 ∧ DataW.trod enc P W base sp held n f3.type [v3] = some y3 ∧
      DataW.trod enc P W base sp held n f4.type [v4] = some y4 ∧ DataW.trod enc P W base sp held n f5.type [v5] = some y5 ∧ DataW.trod enc P W base sp held n f6.type [v6] = some y6 ∧ DataW.trod enc P W base sp held n f7.type [v7] = some y7 := by
  obtain ⟨cs, rfl, hsz⟩ := okWide_struct hs hv
  obtain ⟨l⟩ := cs
  match l, hsz.trans hC with
  | [c0, c1, c2, c3, c4, c5, c6, c7], _ =>
    obtain ⟨fuel, hf⟩ := h
    obtain ⟨xs, n, _, _, hl, hlen, hf⟩ := DataW.trod_struct hs hf
    obtain ⟨o0, k0⟩ := hone_of hone 0 f0 rfl
    obtain ⟨o1, k1⟩ := hone_of hone 1 f1 rfl
    obtain ⟨o2, k2⟩ := hone_of hone 2 f2 rfl
    obtain ⟨o3, k3⟩ := hone_of hone 3 f3 rfl
    obtain ⟨o4, k4⟩ := hone_of hone 4 f4 rfl
    obtain ⟨o5, k5⟩ := hone_of hone 5 f5 rfl
    obtain ⟨o6, k6⟩ := hone_of hone 6 f6 rfl
    obtain ⟨o7, k7⟩ := hone_of hone 7 f7 rfl
    match xs, hlen with
    | [y0, y1, y2, y3, y4, y5, y6, y7], _ =>
      exact ⟨c0, c1, c2, c3, c4, c5, c6, c7, y0, y1, y2, y3, y4, y5, y6, y7, n, rfl, by simpa [Value.cells, o0, k0] using hf 0 f0 rfl, by simpa [Value.cells, o1, k1] using hf 1 f1 rfl, by simpa [Value.cells, o2, k2] using hf 2 f2 rfl, by simpa [Value.cells, o3, k3] using hf 3 f3 rfl, by simpa [Value.cells, o4, k4] using hf 4 f4 rfl, by simpa [Value.cells, o5, k5] using hf 5 f5 rfl, by simpa [Value.cells, o6, k6] using hf 6 f6 rfl, by simpa [Value.cells, o7, k7] using hf 7 f7 rfl⟩

/-! ### THE WALK -/
theorem walk (f0 mt0 xf0 os0 sz0 : Int) (ae0 an0 ac0 : Option Addr) (ce0 cn0 cc0 : Nat) (ze0 zn0 zc0 : List Int) (w : World) (we0 : IsRow w ae0 ce0 ze0) (wn0 : IsRow w an0 cn0 zn0) (wc0 : IsRow w ac0 cc0 zc0) :
    Calls Try.prog 4 #[.agg #[.int .i64 f0, .int .i64 mt0, .int .i64 xf0, .int .i64 os0, .slice ae0 ze0.length ce0, .slice an0 zn0.length cn0, .slice ac0 zc0.length cc0, .int .i64 sz0]] w fun e w' => e = .returned (.bool true) ∧ Below w.heap.size w w' := by
  obtain ⟨h1, h2, h3, h4, _⟩ := we0
  obtain ⟨i1, i2, i3, i4, _⟩ := wn0
  obtain ⟨j1, j2, j3, j4, _⟩ := wc0
  unfold maxLen at h2 i2 j2
  by_cases h : ze0.length + zn0.length + zc0.length ≤ 1048576
  · exact law_vm f0 mt0 xf0 os0 sz0 ae0 an0 ac0 ce0 cn0 cc0 ze0 zn0 zc0 w h4 i4 j4 h
  · exact law_vm_big f0 mt0 xf0 os0 sz0 ae0 an0 ac0 ze0.length ce0 zn0.length cn0 zc0.length cc0 w (by omega) (by omega) (by omega) (by omega)

/-! ### THE ROW's STEP -/
set_option maxRecDepth 100000 in
theorem lifted (os : Os) (started : os.Started) (H : Type) (enc : TypeId × Value → H) :
    ReturnsInHanded {} Try.checked os 4 .any (Rows.fnExactValidMemberSpec.pre6 enc Try.prog Try.f4 Rows.fnExactValidMemberRow.domain false) (Rows.fnExactValidMemberSpec.post enc Try.prog Try.f4 false true false false) := by
  refine returnsInHanded_of_change (C := Try.checked) own started (by kernel_rfl) Try.func4
    (ChangeSpec.witness6 (enc := enc) (C := Try.checked) false ⟨#[], #[.agg #[.int .i64 0, .int .i64 0, .int .i64 0, .int .i64 0, .slice none 0 0, .slice none 0 0, .slice none 0 0, .int .i64 0]], []⟩ 8 (by kernel_rfl) (by kernel_rfl) (by kernel_rfl) (by kernel_rfl)) ?_
  intro W base args ds gs before hval0 hW hcnd _
  have hval : ∀ (j : Nat) t v, Try.f4.params[j]? = some t → args[j]? = some v → Value.okWide Try.prog W .any base t v := hval0
  have hW' := hW
  obtain ⟨p, q, hA0, hV, rfl, hfz, hnd⟩ := hW
  have hA : DataW.TrodAll enc Try.prog W 0 (fun _ => true) true Try.f4.params.toList args.toList ds p := hA0
  rw [Try.params4] at hA hval
  obtain ⟨v0, vs0, d0, ds0, p0, q0, hargs, rfl, rfl, h0, r0⟩ := trodAll_cons hA
  obtain ⟨rfl, rfl, rfl⟩ := trodAll_nil r0
  obtain rfl : args = #[v0] := by cases args; simp_all
  obtain ⟨rfl, rfl⟩ := trodVars_none hV
  have k0 := h0
  have lt0 : ∀ x ∈ p0, x.block < W.heap.size := by obtain ⟨m, hm⟩ := k0; exact DataW.trod_lt m _ _ _ hm
  obtain ⟨c00, c10, c20, c30, c40, c50, c60, c70, y00, y10, y20, y30, y40, y50, y60, y70, m0, rfl, g00, g10, g20, g30, g40, g50, g60, g70⟩ := open_agg8 Try.underlying37 (by kernel_rfl) (by kernel_rfl) (hval 0 37 v0 rfl rfl) h0
  obtain ⟨f0, e00, _, _⟩ := DataW.trod_int Try.underlying2 g00
  obtain ⟨mt0, e10, _, _⟩ := DataW.trod_int Try.underlying2 g10
  obtain ⟨xf0, e20, _, _⟩ := DataW.trod_int Try.underlying2 g20
  obtain ⟨os0, e30, _, _⟩ := DataW.trod_int Try.underlying2 g30
  obtain ⟨ae0, ce0, ze0, e40, we0⟩ := open_row g40
  obtain ⟨an0, cn0, zn0, e50, wn0⟩ := open_row g50
  obtain ⟨ac0, cc0, zc0, e60, wc0⟩ := open_row g60
  obtain ⟨sz0, e70, _, _⟩ := DataW.trod_int Try.underlying2 g70
  simp only [List.cons.injEq, and_true] at e00 e10 e20 e30 e40 e50 e60 e70
  subst e00 e10 e20 e30 e40 e50 e60 e70
  clear hA0 hval0
  refine (walk f0 mt0 xf0 os0 sz0 ae0 an0 ac0 ce0 cn0 cc0 ze0 zn0 zc0 W we0 wn0 wc0).mono fun e W' ⟨he, bel⟩ => ?_
  subst he
  exact ⟨_, rfl, _, _, _, [], _, [], hW', trodAll_mk1 (shut_bool Try.underlying4 _), (trodAll_cons_mk (Below.trod laidOut (by kernel_rfl) (of_decide_eq_true (by kernel_rfl)) k0 bel lt0) trodAll_mk0), rfl, bel.frame _, fun h => by cases h⟩

theorem over : Rows.fnExactValidMemberRow.holds Try.pinned (OpenSpec.ofChange Rows.fnExactValidMemberSpec) :=
  OpenClaim.holds_of_wide 4 Try.f4 rfl rfl rfl rfl rfl rfl rfl ⟨rfl, rfl, rfl, rfl, rfl⟩ rfl rfl rfl rfl rfl (by kernel_rfl) Try.func4 (by kernel_rfl)
    (of_decide_eq_true (by kernel_rfl)) (by unfold Func.isWrapper; first | (rw [if_pos (by decide +kernel)]; kernel_rfl) | (rw [if_neg (by decide +kernel)]; exact ⟨rfl, rfl⟩))
    (fun os started H enc _ => lifted os started H enc)

/-- THE STATEMENT -/
theorem proved : Rows.FnExactValidMemberSaid := over
#print axioms proved
end Go.Proofs.Ytmfacacpoajpgad.fnExactValidMember
