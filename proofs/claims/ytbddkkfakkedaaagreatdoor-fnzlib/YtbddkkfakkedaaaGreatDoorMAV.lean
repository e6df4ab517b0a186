import Derived.Deep.LoopGhost
import Derived.Test.YtbddkkfakkedaaaGreatDoorMAT
import Derived.Test.YtbddkkfakkedaaaGreatDoorMAU
namespace Go.Proofs.YtbddkkfakkedaaaGreatDoor
open Go.RowKit
attribute [local go_sem ↓] Go.wp_at_zero Go.wp_at_succ
set_option linter.unusedVariables false

/-- A fault as an error. -/
def flt (c : Int) : Value := .iface 148 (.agg #[.int .i64 c])
set_option maxHeartbeats 3200000 in
theorem number_yes (q p hB : Nat) (zs : List Int) (i n : Nat) (w : World) (hm : w.cell? ⟨q, 0, none⟩ = some (.pointer (some ⟨p, 0, none⟩))) (h : Rd w p hB zs i) (hz : Octets zs) (hzl : zs.length ≤ 65536) (n1 : n ≤ 32) (hn : i + n ≤ 8 * zs.length) :
    Calls Tryz.prog 85 #[.pointer (some ⟨q, 0, none⟩), .int .i64 n] w fun e w' => e = .returned (.tuple #[.int .i64 (field (bnum zs) i n : Nat), .nilIface]) ∧ Rd w' p hB zs (i + n) ∧ w.grownBy w' (some p) := by
  have HT := hideM (rd_take p hB zs i n w h hz hzl n1 hn)
  have hqw := World.block_lt_of_cell? w _ hm
  have hf : field (bnum zs) i n < 2 ^ 32 := Nat.lt_of_lt_of_le (field_lt _ _ _) (Nat.pow_le_pow_right (by decide) n1)
  clear h
  generalize field (bnum zs) i n = F at *
  go_enter Tryz.func85, Tryz.ntmps85
  go_wp2_with fail
  refine Calls.mono HT.out ?_
  rintro e w' ⟨rfl, hR, hg⟩
  have HR := hideM hR
  have HG := hideM hg
  have hw : IntKind.i64.wrap (F : Int) = (F : Int) := by rw [IntKind.wrap_i64]; omega
  clear hR hg HT hf
  go_wp2_with fail
  exact bodyPost_ret (v := .tuple #[.int .i64 F, .nilIface]) (by simp [results, Tryz.results85, go_sem]) rfl ⟨rfl, HR.out, HG.out⟩
set_option maxHeartbeats 3200000 in
theorem number_no (q p hB : Nat) (zs : List Int) (i n : Nat) (w : World) (hm : w.cell? ⟨q, 0, none⟩ = some (.pointer (some ⟨p, 0, none⟩))) (h : Rd w p hB zs i) (hzl : zs.length ≤ 65536) (n1 : n ≤ 32) (hn : ¬ i + n ≤ 8 * zs.length) :
    Calls Tryz.prog 85 #[.pointer (some ⟨q, 0, none⟩), .int .i64 n] w fun e w' => e = .returned (.tuple #[.int .i64 0, flt 2]) ∧ Below w.heap.size w w' := by
  have HT := hideM (rd_take_no p hB zs i n w h hzl n1 hn)
  have hqw := World.block_lt_of_cell? w _ hm
  clear h
  go_enter Tryz.func85, Tryz.ntmps85
  go_wp2_with fail
  refine Calls.mono HT.out ?_
  rintro e w' ⟨rfl, hb⟩
  have HB := hideM hb
  clear hb HT
  go_wp2_with fail
  exact bodyPost_ret (v := .tuple #[.int .i64 0, flt 2]) (by simp [results, Tryz.results85, go_sem, flt]) rfl ⟨rfl, HB.out⟩
/-- A function value stored in one cell. -/
theorem store_func (W : World) (a : Addr) (f : Fn) (x y : Array Value) (old : Value) (h : W.cell? a = some old) (hf : W.frozen? a = false) : Sem.run Tryz.prog (store a (.func f x y)) W = .ok () (W.setCell a (.func f x y)) := by
  rw [run_store Tryz.prog W a _ _ (by rfl)]
  simp [h, hf]
theorem grownBy_allocs (w : World) (a b c d : Obj) (r : Option Nat) : w.grownBy ((((w.alloc a).alloc b).alloc c).alloc d) r :=
  grownBy_trans (grownBy_trans (grownBy_trans (World.grownBy_alloc w a r) (World.grownBy_alloc _ b r)) (World.grownBy_alloc _ c r)) (World.grownBy_alloc _ d r)
/-- errors.As at a fault: the variable has it, nothing else has turned. -/
theorem as_fault2 (c : Int) (g : Nat) (old : Value) (w : World) (hg : w.cell? ⟨1, 0, none⟩ = some (.iface 227 (.agg #[.pointer (some ⟨3, 111, none⟩)]))) (ht0 : w.cell? ⟨g, 0, none⟩ = some old) (hf0 : w.frozen? ⟨g, 0, none⟩ = false) :
    Calls Tryz.prog 91 #[.iface 148 (.agg #[.int .i64 c]), .iface 154 (.pointer (some ⟨g, 0, none⟩))] w fun ev w' => ev = .returned (.bool true) ∧ w'.cell? ⟨g, 0, none⟩ = some (.int .i64 c) ∧ w.grownBy w' (some g) := by
  refine Calls.mono (as_fault c ⟨g, 0, none⟩ old w hg ht0 hf0) ?_
  rintro e w' ⟨rfl, rfl⟩
  have h1 := grownBy_allocs w (.cells #[.pointer (some ⟨g, 0, none⟩)] 154) (.cells #[.pointer (some ⟨3, 154, none⟩), .pointer (some ⟨w.heap.size, 0, none⟩), .int .u64 150] 192) (.cells #[.pointer (some ⟨3, 154, none⟩), .pointer (some ⟨w.heap.size, 0, none⟩), .int .u64 150] 192) (.cells #[.int .i64 c] 148)
  refine ⟨rfl, ?_, grownBy_trans (h1 _) (grownBy_setCell _ ⟨g, 0, none⟩ _)⟩
  exact World.cell?_setCell_same _ _ _ ((h1 none).cell ht0 (by simp))
theorem cell_fault (w : World) (c : Int) : ∃ old, (w.alloc (.cells #[.int .i64 c] 148)).cell? ⟨w.heap.size, 0, none⟩ = some old ∧ (w.alloc (.cells #[.int .i64 c] 148)).frozen? ⟨w.heap.size, 0, none⟩ = false := ⟨.int .i64 c, by simp [go_sem], by simp [go_sem]⟩
set_option maxHeartbeats 3200000 in
/-- stopAt where input is missing: the state is kept. -/
theorem stopAt_short (q : Nat) (w : World) (hq : q < w.heap.size) (hg : w.cell? ⟨1, 0, none⟩ = some (.iface 227 (.agg #[.pointer (some ⟨3, 111, none⟩)]))) :
    Calls Tryz.prog 53 #[.pointer (some ⟨q, 0, none⟩), flt 2] w fun e w' => e = .returned (.int .i64 2) ∧ Below w.heap.size w w' := by
  have hlt : 1 < w.heap.size := World.block_lt_of_cell? w _ hg
  obtain ⟨w1, hw1⟩ : ∃ w1, w.alloc (.cells #[.int .i64 0] 148) = w1 := ⟨_, rfl⟩
  have c1 : w1.cell? ⟨w.heap.size, 0, none⟩ = some (.int .i64 0) := by rw [← hw1]; simp [go_sem]
  have f1 : w1.frozen? ⟨w.heap.size, 0, none⟩ = false := by rw [← hw1]; simp [go_sem]
  have g1 : w1.cell? ⟨1, 0, none⟩ = some (.iface 227 (.agg #[.pointer (some ⟨3, 111, none⟩)])) := by rw [← hw1, World.cell?_alloc_lt _ _ ⟨1, 0, none⟩ hlt]; exact hg
  have HA := hideM (as_fault2 2 w.heap.size (.int .i64 0) w1 g1 c1 f1)
  have HB1 : Hid (Below w.heap.size w w1) := by rw [← hw1]; exact (Below.refl _ _).alloc (Nat.le_refl _) _
  have hs1 : w.heap.size < w1.heap.size := World.block_lt_of_cell? w1 _ c1
  clear g1 c1 f1
  unfold flt
  go_enter Tryz.func53, Tryz.ntmps53
  go_wp2_with fail
  refine Calls.mono HA.out ?_
  rintro e w2 ⟨rfl, c2, hg2⟩
  have HB2 := hideM (HB1.out.grown hg2 (Nat.le_of_lt hs1) (fun k e => by simp at e; omega))
  have hs2 := hg2.size
  clear hg2 HA hw1
  go_wp2_with fail
  go_ret
  exact ⟨rfl, HB2.out⟩
set_option maxHeartbeats 3200000 in
/-- stopAt at any other fault: its own state is laid. -/
theorem stopAt_bad (q : Nat) (c : Int) (old : Value) (w : World) (hc : ¬ c = 2) (h1 : w.cell? ⟨q, 1, none⟩ = some old) (hf : w.frozen? ⟨q, 1, none⟩ = false) (hg : w.cell? ⟨1, 0, none⟩ = some (.iface 227 (.agg #[.pointer (some ⟨3, 111, none⟩)]))) :
    Calls Tryz.prog 53 #[.pointer (some ⟨q, 0, none⟩), flt c] w fun e w' => e = .returned (.int .i64 c) ∧ ∃ w2 v, Below w.heap.size w w2 ∧ w' = w2.setCell ⟨q, 1, none⟩ v := by
  have hlt : 1 < w.heap.size := World.block_lt_of_cell? w _ hg
  have hq : q < w.heap.size := World.block_lt_of_cell? w _ h1
  obtain ⟨w1, hw1⟩ : ∃ w1, w.alloc (.cells #[.int .i64 0] 148) = w1 := ⟨_, rfl⟩
  have c1 : w1.cell? ⟨w.heap.size, 0, none⟩ = some (.int .i64 0) := by rw [← hw1]; simp [go_sem]
  have f1 : w1.frozen? ⟨w.heap.size, 0, none⟩ = false := by rw [← hw1]; simp [go_sem]
  have g1 : w1.cell? ⟨1, 0, none⟩ = some (.iface 227 (.agg #[.pointer (some ⟨3, 111, none⟩)])) := by rw [← hw1, World.cell?_alloc_lt _ _ ⟨1, 0, none⟩ hlt]; exact hg
  have HA := hideM (as_fault2 c w.heap.size (.int .i64 0) w1 g1 c1 f1)
  have hB1 : Below w.heap.size w w1 := by rw [← hw1]; exact (Below.refl _ _).alloc (Nat.le_refl _) _
  have hs1 : w.heap.size < w1.heap.size := World.block_lt_of_cell? w1 _ c1
  have HB1 := hideM hB1
  have hcb : (c == 2) = false := by simp [hc]
  have hcn : (c != 2) = true := by simp [hc]
  clear g1 c1 f1 hB1
  unfold flt
  go_enter Tryz.func53, Tryz.ntmps53
  go_wp2_with fail
  refine Calls.mono HA.out ?_
  rintro e w2 ⟨rfl, c2, hg2⟩
  have hB2 := HB1.out.grown hg2 (Nat.le_of_lt hs1) (fun k e => by simp at e; omega)
  have d1 := (hB2.cell (p := ⟨q, 1, none⟩) hq).trans h1
  have e1 := (hB2.frozen (p := ⟨q, 1, none⟩) hq).trans hf
  have HG2 := hideM hB2
  have hs2 := hg2.size
  have hqn : w.heap.size ≠ q := by omega
  have hst := fun x => store_func w2 ⟨q, 1, none⟩ (Fn.func 92) x #[] old d1 e1
  clear hg2 HA hw1 hB2 h1 hf
  go_wp2_with fail
  go_ret
  exact ⟨rfl, _, _, HG2.out, rfl⟩
end Go.Proofs.YtbddkkfakkedaaaGreatDoor
namespace Go.Proofs.YtbddkkfakkedaaaGreatDoor
open Go.RowKit
attribute [local go_sem ↓] Go.wp_at_zero Go.wp_at_succ
set_option linter.unusedVariables false

section
variable {C : Type}
/-- The value of a machine's next state. -/
def nowV (now : C → Option (Nat × Array Value)) (c : C) : Value := match now c with | none => .nilFunc | some (f, caps) => .func (Fn.func f) caps #[]
/-- How a machine ends that goes by steps: the number, and where it stands then. -/
def EndsN (now : C → Option (Nat × Array Value)) (step : C → C ⊕ (Int × C)) : Nat → C → Int → C → Prop
  | 0, _, _, _ => False
  | n + 1, c, k, cf => (now c = none ∧ k = 1 ∧ cf = c) ∨ (now c ≠ none ∧ step c = .inr (k, cf)) ∨ (now c ≠ none ∧ ∃ c', step c = .inl c' ∧ EndsN now step n c' k cf)
def Ends (now : C → Option (Nat × Array Value)) (step : C → C ⊕ (Int × C)) (c : C) (k : Int) (cf : C) : Prop := ∃ n, EndsN now step n c k cf
theorem Ends.fin {now : C → Option (Nat × Array Value)} {step : C → C ⊕ (Int × C)} {c : C} (h : now c = none) : Ends now step c 1 c := ⟨1, .inl ⟨h, rfl, rfl⟩⟩
theorem Ends.bad {now : C → Option (Nat × Array Value)} {step : C → C ⊕ (Int × C)} {c cf : C} {k : Int} (h : now c ≠ none) (hs : step c = .inr (k, cf)) : Ends now step c k cf := ⟨1, .inr (.inl ⟨h, hs⟩)⟩
theorem Ends.more {now : C → Option (Nat × Array Value)} {step : C → C ⊕ (Int × C)} {c c' cf : C} {k : Int} (h : now c ≠ none) (hs : step c = .inl c') (h2 : Ends now step c' k cf) : Ends now step c k cf := by
  obtain ⟨n, hn⟩ := h2
  exact ⟨n + 1, .inr (.inr ⟨h, c', hs, hn⟩)⟩
theorem Ends.ind {now : C → Option (Nat × Array Value)} {step : C → C ⊕ (Int × C)} {X : C → Int → C → Prop} (h1 : ∀ c, now c = none → X c 1 c) (h2 : ∀ c cf k, now c ≠ none → step c = .inr (k, cf) → X c k cf)
    (h3 : ∀ c c' cf k, now c ≠ none → step c = .inl c' → X c' k cf → X c k cf) {c : C} {k : Int} {cf : C} (h : Ends now step c k cf) : X c k cf := by
  obtain ⟨n, hn⟩ := h
  induction n generalizing c with
  | zero => exact hn.elim
  | succ n ih =>
    rcases hn with ⟨h4, rfl, rfl⟩ | ⟨h4, h5⟩ | ⟨h4, c', h5, h6⟩
    · exact h1 _ h4
    · exact h2 _ _ _ h4 h5
    · exact h3 _ c' _ _ h4 h5 (ih h6)
/-- What a state's call answers. -/
def StepPost (now : C → Option (Nat × Array Value)) (Mem : World → C → Prop) (B : Nat) (r : C ⊕ (Int × C)) (e : Ending) (w w' : World) : Prop :=
  (∀ c', r = .inl c' → e = .returned (.tuple #[nowV now c', .nilIface]) ∧ Mem w' c' ∧ Below B w w') ∧ (∀ k cf, r = .inr (k, cf) → ∃ v, e = .returned (.tuple #[v, flt k]) ∧ Mem w' cf ∧ Below B w w')
/-- What run answers. -/
def RunPost (now : C → Option (Nat × Array Value)) (step : C → C ⊕ (Int × C)) (Mem : World → C → Prop) (B : Nat) (c0 : C) (w : World) (e : Ending) (w' : World) : Prop := ∃ k cf, e = .returned (.int .i64 k) ∧ Ends now step c0 k cf ∧ Mem w' cf ∧ Below B w w'
theorem neq_func (f : Fn) (x y : Array Value) (w : World) : Sem.run Tryz.prog (binOp BinOp.neq 62 (.func f x y) .nilFunc) w = .ok (.bool true) w := by kernel_rfl
theorem neq_nilf (w : World) : Sem.run Tryz.prog (binOp BinOp.neq 62 .nilFunc .nilFunc) w = .ok (.bool false) w := by kernel_rfl
theorem store_nilf (W : World) (a : Addr) (old : Value) (h : W.cell? a = some old) (hf : W.frozen? a = false) : Sem.run Tryz.prog (store a .nilFunc) W = .ok () (W.setCell a .nilFunc) := by
  rw [run_store Tryz.prog W a _ _ (by rfl)]
  simp [h, hf]
theorem store_now (now : C → Option (Nat × Array Value)) (c : C) (W : World) (a : Addr) (old : Value) (h : W.cell? a = some old) (hf : W.frozen? a = false) : Sem.run Tryz.prog (store a (nowV now c)) W = .ok () (W.setCell a (nowV now c)) := by
  unfold nowV
  split
  · exact store_nilf W a old h hf
  · exact store_func W a _ _ _ old h hf
set_option maxRecDepth 100000 in
set_option maxHeartbeats 3200000 in
theorem run_any (q B : Nat) (now : C → Option (Nat × Array Value)) (Mem : World → C → Prop) (step : C → C ⊕ (Int × C)) (μ : C → Nat) (hBq : B ≤ q)
    (hgo : ∀ c f caps, now c = some (f, caps) → ∀ args W, Sem.run Tryz.prog (callFunc f args) W = .ok (.enter f args) W)
    (hcell : ∀ W c, Mem W c → (∃ old, W.cell? ⟨q, 1, none⟩ = some old) ∧ W.frozen? ⟨q, 1, none⟩ = false ∧ W.cell? ⟨1, 0, none⟩ = some (.iface 227 (.agg #[.pointer (some ⟨3, 111, none⟩)])))
    (hset : ∀ W c v, Mem W c → Mem (W.setCell ⟨q, 1, none⟩ v) c) (hbel : ∀ W W' c, Mem W c → Below W.heap.size W W' → Mem W' c)
    (hstep : ∀ W c f caps, now c = some (f, caps) → Mem W c → Calls Tryz.prog f caps W fun e W' => StepPost now Mem B (step c) e W W')
    (hμ : ∀ c c', now c ≠ none → step c = .inl c' → μ c' < μ c) (c0 : C) (w : World) (hM : Mem w c0) (hn : w.cell? ⟨q, 1, none⟩ = some (nowV now c0)) :
    Calls Tryz.prog 25 #[.pointer (some ⟨q, 0, none⟩)] w fun e w' => RunPost now step Mem B c0 w e w' := by
  have HGO := hideM hgo
  have HC := hideM hcell
  have HS := hideM hset
  have HBL := hideM hbel
  have HST := hideM hstep
  have HMU := hideM hμ
  have HM := hideM hM
  have HN := hideM hn
  clear hgo hcell hset hbel hstep hμ hM hn
  go_enter Tryz.func25, Tryz.ntmps25
  go_wp2_with fail
  go_loopg [3] (μ c0) (fun n _ wr => ∃ c : C, Hid (μ c = n) ∧ Hid (Mem wr c) ∧ Hid (wr.cell? ⟨q, 1, none⟩ = some (nowV now c)) ∧ Hid (∀ k cf, Ends now step c k cf → Ends now step c0 k cf) ∧ Hid (Below B w wr))
  case atStart => exact ⟨c0, rfl, HM, HN, (fun _ _ h => h), Below.refl _ _⟩
  case round =>
    clear HM HN
    obtain ⟨c, Hμ, HM, HN, HE, HB⟩ := hrel
    obtain ⟨⟨old, hold⟩, hfr, hgl⟩ := HC.out wr c HM.out
    have hqw := World.block_lt_of_cell? wr _ hold
    have hnn := neq_nilf
    have hne := neq_func
    cases hnow : now c with
    | none =>
      have h1 : wr.cell? ⟨q, 1, none⟩ = some .nilFunc := by rw [HN.out, nowV, hnow]
      have HF := hideM (HE.out 1 c (.fin hnow))
      clear hnow hold
      go_wp2_with fail
      go_ret
      exact ⟨1, c, rfl, HF.out, HM.out, HB.out⟩
    | some fc =>
      obtain ⟨f, caps⟩ := fc
      have h1 : wr.cell? ⟨q, 1, none⟩ = some (.func (Fn.func f) caps #[]) := by rw [HN.out, nowV, hnow]
      have hgo := HGO.out c f caps hnow
      have HCL := hideM (HST.out wr c f caps hnow HM.out)
      have HNN : Hid (now c ≠ none) := by rw [hnow]; intro e; cases e
      clear hold hnow
      go_wp2_with fail
      refine Calls.mono HCL.out ?_
      rintro e w2 ⟨hyes, hno⟩
      cases hst : step c with
      | inl c' =>
        obtain ⟨rfl, hM2, hB2⟩ := hyes c' hst
        obtain ⟨⟨old2, hold2⟩, hfr2, hgl2⟩ := HC.out w2 c' hM2
        have hq2 : q < w2.heap.size := World.block_lt_of_cell? w2 _ hold2
        have hsto := store_now now c' w2 ⟨q, 1, none⟩ old2 hold2 hfr2
        have HM3 := hideM (HS.out w2 c' (nowV now c') hM2)
        have HN3 : Hid ((w2.setCell ⟨q, 1, none⟩ (nowV now c')).cell? ⟨q, 1, none⟩ = some (nowV now c')) := World.cell?_setCell_same _ _ _ hold2
        have HB3 := hideM ((HB.out.trans hB2).setCell (p := ⟨q, 1, none⟩) hBq (nowV now c'))
        have HE3 : Hid (∀ k cf, Ends now step c' k cf → Ends now step c0 k cf) := fun k cf h => HE.out k cf (.more HNN.out hst h)
        have HU3 := hideM (HMU.out c c' HNN.out hst)
        clear hyes hno hM2 hB2 hst HCL
        cases hn' : now c' with
        | none =>
          have hv : nowV now c' = .nilFunc := by rw [nowV, hn']
          clear hn'
          rw [hv] at hsto HM3 HN3 HB3 ⊢
          have HV := hideM hv
          clear hv
          go_wp2_with fail
          go_roundg (μ c')
          case measure => rw [← Hμ.out]; exact HU3.out
          case rel =>
            refine ⟨c', rfl, HM3, ?_, HE3, HB3⟩
            show _ = _
            rw [HV.out]
            exact HN3.out
        | some fc' =>
          obtain ⟨f', caps'⟩ := fc'
          have hv : nowV now c' = .func (Fn.func f') caps' #[] := by rw [nowV, hn']
          clear hn'
          rw [hv] at hsto HM3 HN3 HB3 ⊢
          have HV := hideM hv
          clear hv
          go_wp2_with fail
          go_roundg (μ c')
          case measure => rw [← Hμ.out]; exact HU3.out
          case rel =>
            refine ⟨c', rfl, HM3, ?_, HE3, HB3⟩
            show _ = _
            rw [HV.out]
            exact HN3.out
      | inr kc =>
        obtain ⟨k, cf⟩ := kc
        obtain ⟨v, rfl, hM2, hB2⟩ := hno k cf hst
        obtain ⟨⟨old2, hold2⟩, hfr2, hgl2⟩ := HC.out w2 cf hM2
        have hq2 : q < w2.heap.size := World.block_lt_of_cell? w2 _ hold2
        have HF := hideM (HE.out k cf (.bad HNN.out hst))
        have HM2 := hideM hM2
        have HB2 := hideM (HB.out.trans hB2)
        have HA2 := hideM (stopAt_short q w2 hq2 hgl2)
        have HAB := hideM (fun h => stopAt_bad q k old2 w2 h hold2 hfr2 hgl2)
        clear hyes hno hM2 hB2 hst HCL
        have hw2B : B ≤ w2.heap.size := by omega
        by_cases hk : k = 2
        · subst hk
          unfold flt at HA2 ⊢
          go_wp2_with fail
          refine Calls.mono HA2.out ?_
          rintro e w3 ⟨rfl, hb3⟩
          have HM3 := hideM (HBL.out w2 w3 cf HM2.out hb3)
          have HB3 := hideM (HB2.out.trans (hb3.mono hw2B))
          clear hb3 HA2 HAB
          go_wp2_with fail
          go_ret
          exact ⟨2, cf, rfl, HF.out, HM3.out, HB3.out⟩
        · have HA3 := hideM (HAB.out hk)
          unfold flt at HA3 ⊢
          go_wp2_with fail
          refine Calls.mono HA3.out ?_
          rintro e w3 ⟨rfl, w4, v4, hb4, rfl⟩
          have HM3 := hideM (HS.out w4 cf v4 (HBL.out w2 w4 cf HM2.out hb4))
          have HB3 := hideM ((HB2.out.trans (hb4.mono hw2B)).setCell (p := ⟨q, 1, none⟩) hBq v4)
          clear hb4 HA2 HAB HA3
          go_wp2_with fail
          go_ret
          exact ⟨k, cf, rfl, HF.out, HM3.out, HB3.out⟩
end
end Go.Proofs.YtbddkkfakkedaaaGreatDoor
