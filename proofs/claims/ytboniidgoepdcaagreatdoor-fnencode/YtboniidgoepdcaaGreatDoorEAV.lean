import Derived.Deep.LoopGhost
import Derived.Test.YtboniidgoepdcaaGreatDoorEAT
import Derived.Test.YtboniidgoepdcaaGreatDoorEAU
namespace Go.Proofs.YtboniidgoepdcaaGreatDoor
open Go.RowKit
attribute [local go_sem ↓] Go.wp_at_zero Go.wp_at_succ
set_option linter.unusedVariables false

section
variable {C : Type}
/-- The value of a machine's next state. -/
def nowV (now : C → Option (Nat × Array Value)) (c : C) : Value := match now c with | none => .nilFunc | some (f, caps) => .func (Fn.func f) caps #[]
/-- How a machine ends that goes by steps: the number, and where it stands then. -/
def EndsN (now : C → Option (Nat × Array Value)) (step : C → C ⊕ (Int × C)) : Nat → C → Int → C → Prop
  | 0, _, _, _ => False
  | n + 1, c, k, cf => (now c = none ∧ k = 1 ∧ cf = c) ∨ (now c ≠ none ∧ step c = .inr (k, cf)) ∨ (now c ≠ none ∧ ∃ c', step c = .inl c' ∧ EndsN now step n c' k cf)
def Ends (now : C → Option (Nat × Array Value)) (step : C → C ⊕ (Int × C)) (c : C) (k : Int) (cf : C) : Prop := ∃ n, EndsN now step n c k cf
theorem Ends.fin {now : C → Option (Nat × Array Value)} {step : C → C ⊕ (Int × C)} {c : C} (h : now c = none) : Ends now step c 1 c := ⟨1, .inl ⟨h, rfl, rfl⟩⟩
theorem Ends.bad {now : C → Option (Nat × Array Value)} {step : C → C ⊕ (Int × C)} {c cf : C} {k : Int} (h : now c ≠ none) (hs : step c = .inr (k, cf)) : Ends now step c k cf := ⟨1, .inr (.inl ⟨h, hs⟩)⟩
theorem Ends.more {now : C → Option (Nat × Array Value)} {step : C → C ⊕ (Int × C)} {c c' cf : C} {k : Int} (h : now c ≠ none) (hs : step c = .inl c') (h2 : Ends now step c' k cf) : Ends now step c k cf := by
  obtain ⟨n, hn⟩ := h2
  exact ⟨n + 1, .inr (.inr ⟨h, c', hs, hn⟩)⟩
theorem Ends.ind {now : C → Option (Nat × Array Value)} {step : C → C ⊕ (Int × C)} {X : C → Int → C → Prop} (h1 : ∀ c, now c = none → X c 1 c) (h2 : ∀ c cf k, now c ≠ none → step c = .inr (k, cf) → X c k cf)
    (h3 : ∀ c c' cf k, now c ≠ none → step c = .inl c' → X c' k cf → X c k cf) {c : C} {k : Int} {cf : C} (h : Ends now step c k cf) : X c k cf := by
  obtain ⟨n, hn⟩ := h
  induction n generalizing c with
  | zero => exact hn.elim
  | succ n ih =>
    rcases hn with ⟨h4, rfl, rfl⟩ | ⟨h4, h5⟩ | ⟨h4, c', h5, h6⟩
    · exact h1 _ h4
    · exact h2 _ _ _ h4 h5
    · exact h3 _ c' _ _ h4 h5 (ih h6)
/-- What a state's call answers. -/
def StepPost (now : C → Option (Nat × Array Value)) (Mem : World → C → Prop) (B : Nat) (r : C ⊕ (Int × C)) (e : Ending) (w w' : World) : Prop :=
  (∀ c', r = .inl c' → e = .returned (.tuple #[nowV now c', .nilIface]) ∧ Mem w' c' ∧ Below B w w') ∧ (∀ k cf, r = .inr (k, cf) → ∃ v, e = .returned (.tuple #[v, flt k]) ∧ Mem w' cf ∧ Below B w w')
/-- What run answers. -/
def RunPost (now : C → Option (Nat × Array Value)) (step : C → C ⊕ (Int × C)) (Mem : World → C → Prop) (B : Nat) (c0 : C) (w : World) (e : Ending) (w' : World) : Prop := ∃ k cf, e = .returned (.int .i64 k) ∧ Ends now step c0 k cf ∧ Mem w' cf ∧ Below B w w'
theorem neq_func (f : Fn) (x y : Array Value) (w : World) : Sem.run Tryz.prog (binOp BinOp.neq 54 (.func f x y) .nilFunc) w = .ok (.bool true) w := by kernel_rfl
theorem neq_nilf (w : World) : Sem.run Tryz.prog (binOp BinOp.neq 54 .nilFunc .nilFunc) w = .ok (.bool false) w := by kernel_rfl
theorem store_nilf (W : World) (a : Addr) (old : Value) (h : W.cell? a = some old) (hf : W.frozen? a = false) : Sem.run Tryz.prog (store a .nilFunc) W = .ok () (W.setCell a .nilFunc) := by
  rw [run_store Tryz.prog W a _ _ (by rfl)]
  simp [h, hf]
theorem store_now (now : C → Option (Nat × Array Value)) (c : C) (W : World) (a : Addr) (old : Value) (h : W.cell? a = some old) (hf : W.frozen? a = false) : Sem.run Tryz.prog (store a (nowV now c)) W = .ok () (W.setCell a (nowV now c)) := by
  unfold nowV
  split
  · exact store_nilf W a old h hf
  · exact store_func W a _ _ _ old h hf
set_option maxRecDepth 100000 in
set_option maxHeartbeats 3200000 in
theorem run_any (q B : Nat) (now : C → Option (Nat × Array Value)) (Mem : World → C → Prop) (step : C → C ⊕ (Int × C)) (μ : C → Nat) (hBq : B ≤ q)
    (hgo : ∀ c f caps, now c = some (f, caps) → ∀ args W, Sem.run Tryz.prog (callFunc f args) W = .ok (.enter f args) W)
    (hcell : ∀ W c, Mem W c → (∃ old, W.cell? ⟨q, 1, none⟩ = some old) ∧ W.frozen? ⟨q, 1, none⟩ = false ∧ W.cell? ⟨0, 0, none⟩ = some (.iface 160 (.agg #[.pointer (some ⟨2, 84, none⟩)])))
    (hset : ∀ W c v, Mem W c → Mem (W.setCell ⟨q, 1, none⟩ v) c) (hbel : ∀ W W' c, Mem W c → Below W.heap.size W W' → Mem W' c)
    (hstep : ∀ W c f caps, now c = some (f, caps) → Mem W c → Calls Tryz.prog f caps W fun e W' => StepPost now Mem B (step c) e W W')
    (hμ : ∀ c c', now c ≠ none → step c = .inl c' → μ c' < μ c) (c0 : C) (w : World) (hM : Mem w c0) (hn : w.cell? ⟨q, 1, none⟩ = some (nowV now c0)) :
    Calls Tryz.prog 20 #[.pointer (some ⟨q, 0, none⟩)] w fun e w' => RunPost now step Mem B c0 w e w' := by
  have HGO := hideM hgo
  have HC := hideM hcell
  have HS := hideM hset
  have HBL := hideM hbel
  have HST := hideM hstep
  have HMU := hideM hμ
  have HM := hideM hM
  have HN := hideM hn
  clear hgo hcell hset hbel hstep hμ hM hn
  go_enter Tryz.func20, Tryz.ntmps20
  go_wp2_with fail
  go_loopg [3] (μ c0) (fun n _ wr => ∃ c : C, Hid (μ c = n) ∧ Hid (Mem wr c) ∧ Hid (wr.cell? ⟨q, 1, none⟩ = some (nowV now c)) ∧ Hid (∀ k cf, Ends now step c k cf → Ends now step c0 k cf) ∧ Hid (Below B w wr))
  case atStart => exact ⟨c0, rfl, HM, HN, (fun _ _ h => h), Below.refl _ _⟩
  case round =>
    clear HM HN
    obtain ⟨c, Hμ, HM, HN, HE, HB⟩ := hrel
    obtain ⟨⟨old, hold⟩, hfr, hgl⟩ := HC.out wr c HM.out
    have hqw := World.block_lt_of_cell? wr _ hold
    have hnn := neq_nilf
    have hne := neq_func
    cases hnow : now c with
    | none =>
      have h1 : wr.cell? ⟨q, 1, none⟩ = some .nilFunc := by rw [HN.out, nowV, hnow]
      have HF := hideM (HE.out 1 c (.fin hnow))
      clear hnow hold
      go_wp2_with fail
      go_ret
      exact ⟨1, c, rfl, HF.out, HM.out, HB.out⟩
    | some fc =>
      obtain ⟨f, caps⟩ := fc
      have h1 : wr.cell? ⟨q, 1, none⟩ = some (.func (Fn.func f) caps #[]) := by rw [HN.out, nowV, hnow]
      have hgo := HGO.out c f caps hnow
      have HCL := hideM (HST.out wr c f caps hnow HM.out)
      have HNN : Hid (now c ≠ none) := by rw [hnow]; intro e; cases e
      clear hold hnow
      go_wp2_with fail
      refine Calls.mono HCL.out ?_
      rintro e w2 ⟨hyes, hno⟩
      cases hst : step c with
      | inl c' =>
        obtain ⟨rfl, hM2, hB2⟩ := hyes c' hst
        obtain ⟨⟨old2, hold2⟩, hfr2, hgl2⟩ := HC.out w2 c' hM2
        have hq2 : q < w2.heap.size := World.block_lt_of_cell? w2 _ hold2
        have hsto := store_now now c' w2 ⟨q, 1, none⟩ old2 hold2 hfr2
        have HM3 := hideM (HS.out w2 c' (nowV now c') hM2)
        have HN3 : Hid ((w2.setCell ⟨q, 1, none⟩ (nowV now c')).cell? ⟨q, 1, none⟩ = some (nowV now c')) := World.cell?_setCell_same _ _ _ hold2
        have HB3 := hideM ((HB.out.trans hB2).setCell (p := ⟨q, 1, none⟩) hBq (nowV now c'))
        have HE3 : Hid (∀ k cf, Ends now step c' k cf → Ends now step c0 k cf) := fun k cf h => HE.out k cf (.more HNN.out hst h)
        have HU3 := hideM (HMU.out c c' HNN.out hst)
        clear hyes hno hM2 hB2 hst HCL
        cases hn' : now c' with
        | none =>
          have hv : nowV now c' = .nilFunc := by rw [nowV, hn']
          clear hn'
          rw [hv] at hsto HM3 HN3 HB3 ⊢
          have HV := hideM hv
          clear hv
          go_wp2_with fail
          go_roundg (μ c')
          case measure => rw [← Hμ.out]; exact HU3.out
          case rel =>
            refine ⟨c', rfl, HM3, ?_, HE3, HB3⟩
            show _ = _
            rw [HV.out]
            exact HN3.out
        | some fc' =>
          obtain ⟨f', caps'⟩ := fc'
          have hv : nowV now c' = .func (Fn.func f') caps' #[] := by rw [nowV, hn']
          clear hn'
          rw [hv] at hsto HM3 HN3 HB3 ⊢
          have HV := hideM hv
          clear hv
          go_wp2_with fail
          go_roundg (μ c')
          case measure => rw [← Hμ.out]; exact HU3.out
          case rel =>
            refine ⟨c', rfl, HM3, ?_, HE3, HB3⟩
            show _ = _
            rw [HV.out]
            exact HN3.out
      | inr kc =>
        obtain ⟨k, cf⟩ := kc
        obtain ⟨v, rfl, hM2, hB2⟩ := hno k cf hst
        obtain ⟨⟨old2, hold2⟩, hfr2, hgl2⟩ := HC.out w2 cf hM2
        have hq2 : q < w2.heap.size := World.block_lt_of_cell? w2 _ hold2
        have HF := hideM (HE.out k cf (.bad HNN.out hst))
        have HM2 := hideM hM2
        have HB2 := hideM (HB.out.trans hB2)
        have HA2 := hideM (stopAt_short q w2 hq2 hgl2)
        have HAB := hideM (fun h => stopAt_bad q k old2 w2 h hold2 hfr2 hgl2)
        clear hyes hno hM2 hB2 hst HCL
        have hw2B : B ≤ w2.heap.size := by omega
        by_cases hk : k = 2
        · subst hk
          unfold flt at HA2 ⊢
          go_wp2_with fail
          refine Calls.mono HA2.out ?_
          rintro e w3 ⟨rfl, hb3⟩
          have HM3 := hideM (HBL.out w2 w3 cf HM2.out hb3)
          have HB3 := hideM (HB2.out.trans (hb3.mono hw2B))
          clear hb3 HA2 HAB
          go_wp2_with fail
          go_ret
          exact ⟨2, cf, rfl, HF.out, HM3.out, HB3.out⟩
        · have HA3 := hideM (HAB.out hk)
          unfold flt at HA3 ⊢
          go_wp2_with fail
          refine Calls.mono HA3.out ?_
          rintro e w3 ⟨rfl, w4, v4, hb4, rfl⟩
          have HM3 := hideM (HS.out w4 cf v4 (HBL.out w2 w4 cf HM2.out hb4))
          have HB3 := hideM ((HB2.out.trans (hb4.mono hw2B)).setCell (p := ⟨q, 1, none⟩) hBq v4)
          clear hb4 HA2 HAB HA3
          go_wp2_with fail
          go_ret
          exact ⟨k, cf, rfl, HF.out, HM3.out, HB3.out⟩
end
end Go.Proofs.YtboniidgoepdcaaGreatDoor
namespace Go.Proofs.YtboniidgoepdcaaGreatDoor
open Go.RowKit
attribute [local go_sem ↓] Go.wp_at_zero Go.wp_at_succ
set_option linter.unusedVariables false

theorem cellFar {w w' : World} {r q : Nat} (hg : w.grownBy w' (some r)) (hlt : q < w.heap.size) (hne : q ≠ r) (o : Nat) : w'.cell? ⟨q, o, none⟩ = w.cell? ⟨q, o, none⟩ := World.cell?_of_block (w := w) (a := ⟨q, o, none⟩) (hg.block q hlt (by simpa using hne))
theorem frozenFar {w w' : World} {r q : Nat} (hg : w.grownBy w' (some r)) (hlt : q < w.heap.size) (hne : q ≠ r) (o : Nat) : w'.frozen? ⟨q, o, none⟩ = w.frozen? ⟨q, o, none⟩ := World.frozen?_of_block (w := w) (a := ⟨q, o, none⟩) (hg.block q hlt (by simpa using hne))
/-- Where a machine for lengths stands: its state's number, the bits read, its numbers by their cells (2 lits, 3 dists, 4 codes, 5.. codeLens, 24 codesRead, 27 repeated), the lengths of its table's code, the lengths read. -/
structure LC where
  st : Nat
  i : Nat
  f : Nat → Int
  tb : List Int
  lens : List Int
/-- The cells that hold numbers. -/
def isNum (k : Nat) : Prop := (2 ≤ k ∧ k ≤ 24) ∨ k = 27
def upd (f : Nat → Int) (k : Nat) (x : Int) : Nat → Int := fun j => if j = k then x else f j
/-- The order of the code of lengths. -/
def ord19 (k : Nat) : Nat := [16, 17, 18, 0, 8, 7, 9, 6, 10, 5, 11, 4, 12, 3, 13, 2, 14, 1, 15].getD k 0
/-- The machine's memory. -/
structure LMem (q p hB : Nat) (zs : List Int) (rdy : Value) (w : World) (c : LC) : Prop where
  ne : q ≠ p
  neh : hB ≠ q
  two : 2 ≤ q ∧ 2 ≤ p ∧ 2 ≤ hB
  rd : Rd w p hB zs c.i
  c0 : w.cell? ⟨q, 0, none⟩ = some (.pointer (some ⟨p, 0, none⟩))
  c1 : ∃ old, w.cell? ⟨q, 1, none⟩ = some old
  num : ∀ k, isNum k → w.cell? ⟨q, k, none⟩ = some (.int .i64 (c.f k))
  c25 : ∃ old, w.cell? ⟨q, 25, none⟩ = some old
  c28 : w.cell? ⟨q, 28, none⟩ = some rdy
  free : ∀ k, w.frozen? ⟨q, k, none⟩ = false
  own : ∃ B v, q < B ∧ p < B ∧ hB < B ∧ B ≤ w.heap.size ∧ w.cell? ⟨q, 26, none⟩ = some v ∧ w.ownsRow B 2 1 v c.lens.length (c.lens.map (Value.int .i64)) ∧ (1 ≤ c.st → c.st ≤ 3 → v = .slice none 0 0) ∧
    (4 ≤ c.st → ∃ t S m L w0, w.cell? ⟨q, 25, none⟩ = some (.pointer (some ⟨t, 0, none⟩)) ∧ TabOf c.tb w0 t S m L ∧ q < t ∧ p < t ∧ w0.heap.size ≤ B ∧ ∀ k, t ≤ k → k < w0.heap.size → w.heap[k]? = w0.heap[k]?)
  g0 : w.cell? ⟨0, 0, none⟩ = some (.iface 160 (.agg #[.pointer (some ⟨2, 84, none⟩)]))
  g1 : ∀ k, k < 19 → w.cell? ⟨1, k, none⟩ = some (.int .i64 (ord19 k : Nat))
/-- Nothing but the machine's first cells, its source and its lengths has been written. -/
structure Trod (q p : Nat) (w w' : World) : Prop where
  os : w'.os = w.os
  tape : w'.tape = w.tape
  output : w'.output = w.output
  size : w.heap.size ≤ w'.heap.size
  block : ∀ k, k < w.heap.size → k ≠ q → k ≠ p → (∀ v, w.cell? ⟨q, 26, none⟩ = some v → v.ownBlock ≠ some k) → w'.heap[k]? = w.heap[k]?
  rest : ∀ o, 29 ≤ o → w'.cell? ⟨q, o, none⟩ = w.cell? ⟨q, o, none⟩
  own : ∀ v' k, w'.cell? ⟨q, 26, none⟩ = some v' → v'.ownBlock = some k → w.heap.size ≤ k ∨ ∃ v, w.cell? ⟨q, 26, none⟩ = some v ∧ v.ownBlock = some k
theorem Trod.refl (q p : Nat) (w : World) : Trod q p w w := ⟨rfl, rfl, rfl, Nat.le_refl _, (fun _ _ _ _ _ => rfl), (fun _ _ => rfl), (fun v k h1 h2 => .inr ⟨v, h1, h2⟩)⟩
theorem Trod.trans {q p : Nat} {a b c : World} (h : Trod q p a b) (k : Trod q p b c) : Trod q p a c := by
  refine ⟨k.os.trans h.os, k.tape.trans h.tape, k.output.trans h.output, Nat.le_trans h.size k.size, ?_, ?_, ?_⟩
  · intro j hj h1 h2 h3
    rw [k.block j (Nat.lt_of_lt_of_le hj h.size) h1 h2 ?_, h.block j hj h1 h2 h3]
    intro v hv e
    rcases h.own v j hv e with h4 | ⟨v0, h4, h5⟩
    · omega
    · exact h3 v0 h4 h5
  · intro o ho
    rw [k.rest o ho, h.rest o ho]
  · intro v' j h1 h2
    rcases k.own v' j h1 h2 with h3 | ⟨v, h3, h4⟩
    · exact .inl (Nat.le_trans h.size h3)
    · exact h.own v j h3 h4
/-- A step of the source alone. -/
theorem Trod.num {q p : Nat} {w w' : World} (hq : q ≠ p) (hlt : q < w.heap.size) (hg : w.grownBy w' (some p)) : Trod q p w w' := by
  have hc : ∀ o, w'.cell? ⟨q, o, none⟩ = w.cell? ⟨q, o, none⟩ := fun o => cellFar hg hlt hq o
  refine ⟨hg.os, hg.tape, hg.output, hg.size, ?_, (fun o _ => hc o), ?_⟩
  · intro k hk _ h2 _
    exact hg.block k hk (by simpa using h2)
  · intro v k h1 h2
    exact .inr ⟨v, (hc 26) ▸ h1, h2⟩
theorem Trod.below {q p : Nat} {w w' : World} (hlt : q < w.heap.size) (hb : Below w.heap.size w w') : Trod q p w w' := by
  have hc : ∀ o, w'.cell? ⟨q, o, none⟩ = w.cell? ⟨q, o, none⟩ := fun o => hb.cell (p := ⟨q, o, none⟩) hlt
  exact ⟨hb.os, hb.tape, hb.output, hb.size, (fun k hk _ _ _ => hb.block k hk), (fun o _ => hc o), (fun v k h1 h2 => .inr ⟨v, (hc 26) ▸ h1, h2⟩)⟩
theorem Trod.set {q p : Nat} {w : World} (k : Nat) (v : Value) (hk : k < 26) : Trod q p w (w.setCell ⟨q, k, none⟩ v) := by
  have hc : ∀ o, 26 ≤ o → (w.setCell ⟨q, k, none⟩ v).cell? ⟨q, o, none⟩ = w.cell? ⟨q, o, none⟩ := fun o ho => World.cell?_setCell_other _ _ _ _ (by first | (simp; done) | (simp; omega))
  have hg := grownBy_setCell w ⟨q, k, none⟩ v
  refine ⟨hg.os, hg.tape, hg.output, hg.size, ?_, (fun o ho => hc o (by omega)), (fun v k h1 h2 => .inr ⟨v, (hc 26 (by omega)) ▸ h1, h2⟩)⟩
  intro j hj h1 _ _
  exact hg.block j hj (by simpa using h1)
theorem LMem.lt {q p hB : Nat} {zs : List Int} {rdy : Value} {w : World} {c : LC} (h : LMem q p hB zs rdy w c) : q < w.heap.size := World.block_lt_of_cell? w _ h.c0
/-- The source has gone on. -/
theorem LMem.went {q p hB : Nat} {zs : List Int} {rdy : Value} {w w' : World} {c : LC} {i' : Nat} (h : LMem q p hB zs rdy w c) (hr : Rd w' p hB zs i') (hg : w.grownBy w' (some p)) : LMem q p hB zs rdy w' { c with i := i' } := by
  have hq := h.lt
  have hc : ∀ o, w'.cell? ⟨q, o, none⟩ = w.cell? ⟨q, o, none⟩ := fun o => cellFar hg hq h.ne o
  obtain ⟨B, v, b1, b2, b3, b4, b5, b6, b7, b8⟩ := h.own
  refine ⟨h.ne, h.neh, h.two, hr, (hc 0).trans h.c0, ?_, (fun k hk => (hc k).trans (h.num k hk)), ?_, (hc 28).trans h.c28, ?_, ?_, ?_, ?_⟩
  · obtain ⟨old, ho⟩ := h.c1
    exact ⟨old, (hc 1).trans ho⟩
  · obtain ⟨old, ho⟩ := h.c25
    exact ⟨old, (hc 25).trans ho⟩
  · intro k
    rw [frozenFar hg hq h.ne k]
    exact h.free k
  · refine ⟨B, v, b1, b2, b3, Nat.le_trans b4 hg.size, (hc 26).trans b5, ?_, b7, ?_⟩
    · refine b6.kept hg ?_
      obtain ⟨_, hx⟩ := b6
      rcases hx with ⟨rfl, _⟩ | ⟨g, cap, cur, rfl, hb, _⟩
      · exact .inl rfl
      · refine .inr ?_
        simp [Value.ownBlock]
        omega
    · intro hs
      obtain ⟨t, S, m, L, w0, h1, h2, h3, h4, h5, h6⟩ := b8 hs
      refine ⟨t, S, m, L, w0, (hc 25).trans h1, h2, h3, h4, h5, fun k k1 k2 => ?_⟩
      rw [← h6 k k1 k2]
      exact hg.block k (by omega) (by simp; omega)
  · exact hg.cell h.g0 (by simp; have := h.two; omega)
  · exact fun k hk => hg.cell (h.g1 k hk) (by simp; have := h.two; omega)
/-- A number of the machine's has been laid. -/
theorem LMem.set {q p hB : Nat} {zs : List Int} {rdy : Value} {w : World} {c : LC} (h : LMem q p hB zs rdy w c) (k : Nat) (hk : isNum k) (x : Int) : LMem q p hB zs rdy (w.setCell ⟨q, k, none⟩ (.int .i64 x)) { c with f := upd c.f k x } := by
  have hq := h.lt
  have hg := grownBy_setCell w ⟨q, k, none⟩ (.int .i64 x)
  have hc : ∀ o, o ≠ k → (w.setCell ⟨q, k, none⟩ (.int .i64 x)).cell? ⟨q, o, none⟩ = w.cell? ⟨q, o, none⟩ := fun o ho => World.cell?_setCell_other _ _ _ _ (by first | (simp; done) | (simp; omega))
  obtain ⟨B, v, b1, b2, b3, b4, b5, b6, b7, b8⟩ := h.own
  have hk' := hk
  unfold isNum at hk'
  refine ⟨h.ne, h.neh, h.two, h.rd.grown hg (by simp; exact Ne.symm h.ne) (by simp; exact h.neh), (hc 0 (by omega)).trans h.c0, ?_, ?_, ?_, (hc 28 (by omega)).trans h.c28, ?_, ?_, ?_, ?_⟩
  · obtain ⟨old, ho⟩ := h.c1
    exact ⟨old, (hc 1 (by omega)).trans ho⟩
  · intro j hj
    by_cases e : j = k
    · subst e
      rw [World.cell?_setCell_same _ _ _ (h.num j hk)]
      simp [upd]
    · rw [hc j e, h.num j hj]
      simp [upd, e]
  · obtain ⟨old, ho⟩ := h.c25
    exact ⟨old, (hc 25 (by omega)).trans ho⟩
  · intro j
    rw [World.frozen?_setCell]
    exact h.free j
  · refine ⟨B, v, b1, b2, b3, Nat.le_trans b4 hg.size, (hc 26 (by omega)).trans b5, ?_, b7, ?_⟩
    · refine b6.kept hg ?_
      obtain ⟨_, hx⟩ := b6
      rcases hx with ⟨rfl, _⟩ | ⟨g, cap, cur, rfl, hb, _⟩
      · exact .inl rfl
      · refine .inr ?_
        simp [Value.ownBlock]
        omega
    · intro hs
      obtain ⟨t, S, m, L, w0, h1, h2, h3, h4, h5, h6⟩ := b8 hs
      refine ⟨t, S, m, L, w0, (hc 25 (by omega)).trans h1, h2, h3, h4, h5, fun j k1 k2 => ?_⟩
      rw [← h6 j k1 k2]
      exact hg.block j (by omega) (by simp; omega)
  · exact hg.cell h.g0 (by simp; have := h.two; omega)
  · exact fun k hk => hg.cell (h.g1 k hk) (by simp; have := h.two; omega)
end Go.Proofs.YtboniidgoepdcaaGreatDoor
namespace Go.Proofs.YtboniidgoepdcaaGreatDoor
open Go.RowKit
set_option linter.unusedVariables false

/-- What the package's variables hold. -/
structure Glob (w : World) : Prop where
  sz : 2 ≤ w.heap.size
  g0 : w.cell? ⟨0, 0, none⟩ = some (.iface 160 (.agg #[.pointer (some ⟨2, 84, none⟩)]))
  g1 : ∀ k, k < 19 → w.cell? ⟨1, k, none⟩ = some (.int .i64 (ord19 k : Nat))
theorem Glob.below {w w' : World} {B : Nat} (h : Glob w) (hb : Below B w w') (hB : 2 ≤ B) : Glob w' := by
  refine ⟨Nat.le_trans h.sz hb.size, ?_, fun k hk => ?_⟩
  · rw [hb.cell (p := ⟨0, 0, none⟩) (by show 0 < _; omega)]; exact h.g0
  · rw [hb.cell (p := ⟨1, k, none⟩) (by show 1 < _; omega)]; exact h.g1 k hk
end Go.Proofs.YtboniidgoepdcaaGreatDoor
