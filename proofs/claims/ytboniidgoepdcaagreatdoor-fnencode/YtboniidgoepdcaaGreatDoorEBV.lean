import Derived.Test.YtboniidgoepdcaaGreatDoorEBC
import Derived.Test.YtboniidgoepdcaaGreatDoorEBI
import Derived.Test.YtboniidgoepdcaaGreatDoorEBL
import Derived.Test.YtboniidgoepdcaaGreatDoorEBU
namespace Go.Proofs.YtboniidgoepdcaaGreatDoor
open Go.RowKit
attribute [local go_sem ↓] Go.wp_at_zero Go.wp_at_succ
set_option linter.unusedVariables false

theorem igo_dynamicCodes (args : Array Value) (W : World) : Sem.run Tryz.prog (callFunc 32 args) W = .ok (.enter 32 args) W := by kernel_rfl
theorem igo_blockHead (args : Array Value) (W : World) : Sem.run Tryz.prog (callFunc 31 args) W = .ok (.enter 31 args) W := by kernel_rfl
theorem igo_blockEnd (args : Array Value) (W : World) : Sem.run Tryz.prog (callFunc 68 args) W = .ok (.enter 68 args) W := by kernel_rfl
theorem igo_storedHead (args : Array Value) (W : World) : Sem.run Tryz.prog (callFunc 46 args) W = .ok (.enter 46 args) W := by kernel_rfl
theorem igo_storedBytes (args : Array Value) (W : World) : Sem.run Tryz.prog (callFunc 62 args) W = .ok (.enter 62 args) W := by kernel_rfl
theorem igo_fixedCodes (args : Array Value) (W : World) : Sem.run Tryz.prog (callFunc 47 args) W = .ok (.enter 47 args) W := by kernel_rfl
theorem igo_literal (args : Array Value) (W : World) : Sem.run Tryz.prog (callFunc 51 args) W = .ok (.enter 51 args) W := by kernel_rfl
theorem igo_copyLength (args : Array Value) (W : World) : Sem.run Tryz.prog (callFunc 70 args) W = .ok (.enter 70 args) W := by kernel_rfl
theorem igo_distance (args : Array Value) (W : World) : Sem.run Tryz.prog (callFunc 83 args) W = .ok (.enter 83 args) W := by kernel_rfl
theorem igo_copyDistance (args : Array Value) (W : World) : Sem.run Tryz.prog (callFunc 92 args) W = .ok (.enter 92 args) W := by kernel_rfl
theorem ifn_go (s : Nat) (hs : s ≤ 15) (args : Array Value) (W : World) : Sem.run Tryz.prog (callFunc (ifn s) args) W = .ok (.enter (ifn s) args) W := by
  by_cases h5 : s ≤ 5
  · rw [ifn_le s h5]
    exact lfn_go s h5 args W
  · have h3 : s = 6 ∨ s = 7 ∨ s = 8 ∨ s = 9 ∨ s = 10 ∨ s = 11 ∨ s = 12 ∨ s = 13 ∨ s = 14 ∨ s = 15 := by omega
    rcases h3 with rfl | rfl | rfl | rfl | rfl | rfl | rfl | rfl | rfl | rfl
    · exact igo_dynamicCodes args W
    · exact igo_blockHead args W
    · exact igo_blockEnd args W
    · exact igo_storedHead args W
    · exact igo_storedBytes args W
    · exact igo_fixedCodes args W
    · exact igo_literal args W
    · exact igo_copyLength args W
    · exact igo_distance args W
    · exact igo_copyDistance args W
/-- Which state comes next is no matter of the memory's. -/
theorem IMem.next {q p hB g s B : Nat} {zs : List Int} {aft : Value} {w : World} {c : IC} (h : IMem q p hB g s B zs aft w c) (v : Value) : IMem q p hB g s B zs aft (w.setCell ⟨q, 1, none⟩ v) c := by
  obtain ⟨T, hR, h26⟩ := h.ex
  obtain ⟨g1, g2, g3, g4, g5, g6, g7⟩ := hR.ne
  have hg := grownBy_setCell w ⟨q, 1, none⟩ v
  have hc : ∀ o, o ≠ 1 → (w.setCell ⟨q, 1, none⟩ v).cell? ⟨q, o, none⟩ = w.cell? ⟨q, o, none⟩ := fun o ho => World.cell?_setCell_other _ _ _ _ (by first | (simp; done) | (simp; omega))
  have hgl : g < w.heap.size := by obtain ⟨rs, p, c, h1, _⟩ := hR.rg; exact h1.lt
  have hb : ∀ k, k < w.heap.size → k ≠ q → (w.setCell ⟨q, 1, none⟩ v).heap[k]? = w.heap[k]? := fun k hk hne => hg.block k hk (by simp; exact hne)
  refine ⟨h.lm.next v, h.ls, h.bs, T, hR.keep hg.size (fun o ho => hc o (by omega)) (fun k hk => hb k (hR.tlt k hk) (fun e => g5 (e ▸ hk))) (hb g hgl g1) (fun ao n cap k e1 e2 => hb k (hR.at30 ao n cap k e1 e2).1 (hR.at30 ao n cap k e1 e2).2.2.2.1), ?_⟩
  intro u k e1 e2
  rw [hc 26 (by omega)] at e1
  rw [hc 30 (by omega)]
  exact h26 u k e1 e2
/-- Where an inflater stands that has met its end. -/
def iStop (c : IC) : IC := { c with st := 16, lc := { c.lc with st := 0 } }
theorem IMem.stop {q p hB g s B : Nat} {zs : List Int} {aft : Value} {w : World} {c : IC} (h : IMem q p hB g s B zs aft w c) : IMem q p hB g s B zs aft w (iStop c) := by
  obtain ⟨T, hR, h26⟩ := h.ex
  refine ⟨h.lm.at 0 (fun h => by omega) (fun h => by omega), ⟨fun e => by show (0 : Nat) = 16; have : 16 ≤ 6 := e; omega, fun _ => rfl⟩, h.bs, T, ?_, h26⟩
  exact { hR with c34 := ⟨hR.c34.1, fun _ e2 => by have : 16 ≤ 15 := e2; omega⟩ }
/-- Where an inflater stands, its numbers well unless it has ended. -/
abbrev IW (zs : List Int) := { c : IC // c.st ≤ 15 → IWell zs c }
/-- A step, where a fault for good is its end. -/
def istep (s : Nat) (zs : List Int) (hzl : zs.length ≤ 65536) (c : IW zs) : IW zs ⊕ (Int × IW zs) :=
  if h15 : c.1.st ≤ 15 then
    match hs : istep0 s zs c.1 with
    | .inl c' => .inl ⟨c', fun _ => (istep0_ok (c.2 h15) h15 hzl hs).1⟩
    | .inr (k, cf) => .inr (k, if k = 2 then c else ⟨iStop cf, fun h => absurd h (by show ¬ (16 : Nat) ≤ 15; omega)⟩)
  else .inr (0, c)
theorem istep_inl {s : Nat} {zs : List Int} {hzl : zs.length ≤ 65536} {c c' : IW zs} (h15 : c.1.st ≤ 15) (h : istep s zs hzl c = .inl c') : istep0 s zs c.1 = .inl c'.1 := by
  unfold istep at h
  rw [dif_pos h15] at h
  split at h
  · rename_i c2 hs
    injection h with h
    rw [← h]
    exact hs
  · cases h
theorem istep_inr {s : Nat} {zs : List Int} {hzl : zs.length ≤ 65536} {c cf : IW zs} {k : Int} (h15 : c.1.st ≤ 15) (h : istep s zs hzl c = .inr (k, cf)) : ∃ c2, istep0 s zs c.1 = .inr (k, c2) ∧ (k = 2 → cf = c) ∧ (k ≠ 2 → cf.1 = iStop c2) := by
  unfold istep at h
  rw [dif_pos h15] at h
  split at h
  · cases h
  · rename_i k2 c2 hs
    injection h with h
    injection h with h1 h2
    subst h1
    refine ⟨c2, hs, fun e => ?_, fun e => ?_⟩
    · rw [if_pos e] at h2
      exact h2.symm
    · rw [if_neg e] at h2
      rw [← h2]
def inowO (q : Nat) {zs : List Int} (c : IW zs) : Option (Nat × Array Value) := if c.1.st ≤ 15 then some (ifn c.1.st, #[.pointer (some ⟨q, 0, none⟩)]) else none
theorem inowO_v (q : Nat) {zs : List Int} (c : IW zs) : nowV (inowO q) c = inow q .nilFunc c.1.st := by
  unfold nowV inowO inow
  by_cases h : c.1.st ≤ 15
  · rw [if_pos h, if_pos h]
  · rw [if_neg h, if_neg h]
theorem addS_two {c cf : LC} {v : Int} {t : Nat} (hs : addS c v t = .inr (2, cf)) : False := by
  unfold addS at hs
  repeat' (split at hs)
  all_goals first | (cases hs; done) | (injection hs with e; injection e with e1 e2; omega)
theorem lstep0_two {zs : List Int} {c cf : LC} (hs : lstep0 zs c = .inr (2, cf)) : cf = c := by
  unfold lstep0 at hs
  split at hs
  · unfold litCountS at hs
    repeat' (split at hs)
    all_goals first | (cases hs; done) | (injection hs with e; injection e with e1 e2; first | omega | exact e2.symm)
  · split at hs
    · unfold distCountS at hs
      repeat' (split at hs)
      all_goals first | (cases hs; done) | (injection hs with e; injection e with e1 e2; first | omega | exact e2.symm)
    · split at hs
      · unfold codeCountS at hs
        repeat' (split at hs)
        all_goals first | (cases hs; done) | (injection hs with e; injection e with e1 e2; first | omega | exact e2.symm)
      · split at hs
        · unfold codeLenS at hs
          repeat' (split at hs)
          all_goals first | (cases hs; done) | (injection hs with e; injection e with e1 e2; first | omega | exact e2.symm)
        · split at hs
          · unfold nextLenS at hs
            repeat' (split at hs)
            all_goals first | exact (addS_two hs).elim | (cases hs; done) | (injection hs with e; injection e with e1 e2; first | omega | exact e2.symm)
          · unfold repeatS at hs
            repeat' (split at hs)
            all_goals first | exact (addS_two hs).elim | (cases hs; done) | (injection hs with e; injection e with e1 e2; first | omega | exact e2.symm)
theorem istep0_two {s : Nat} {zs : List Int} {c cf : IC} (hW : IWell zs c) (hs : istep0 s zs c = .inr (2, cf)) : cf = c := by
  unfold istep0 at hs
  by_cases h5 : c.st ≤ 5
  · rw [if_pos h5] at hs
    cases hl : lstep0 zs c.lc with
    | inl l => rw [hl] at hs; cases hs
    | inr x =>
      rw [hl] at hs
      obtain ⟨k, l⟩ := x
      injection hs with e
      injection e with e1 e2
      dsimp only at e1 e2
      subst e1
      have := lstep0_two hl
      subst this
      have hst := (hW.lens (by omega)).2
      rw [← e2, hst]
  rw [if_neg h5] at hs
  by_cases h6 : c.st = 6
  · rw [if_pos h6] at hs; unfold dynamicCodesS at hs; cases hs
  rw [if_neg h6] at hs
  by_cases h7 : c.st = 7
  · rw [if_pos h7] at hs
    unfold blockHeadS at hs
    repeat' (split at hs)
    all_goals first | (cases hs; done) | (injection hs with e; injection e with e1 e2; first | omega | exact e2.symm)
  rw [if_neg h7] at hs
  by_cases h8 : c.st = 8
  · rw [if_pos h8] at hs
    unfold blockEndS at hs
    split at hs <;> cases hs
  rw [if_neg h8] at hs
  by_cases h9 : c.st = 9
  · rw [if_pos h9] at hs
    unfold storedHeadS at hs
    repeat' (split at hs)
    all_goals first | (cases hs; done) | (injection hs with e; injection e with e1 e2; first | omega | exact e2.symm)
  rw [if_neg h9] at hs
  by_cases h10 : c.st = 10
  · rw [if_pos h10] at hs
    unfold storedBytesS at hs
    repeat' (split at hs)
    all_goals first | (cases hs; done) | (injection hs with e; injection e with e1 e2; first | omega | exact e2.symm)
  rw [if_neg h10] at hs
  by_cases h11 : c.st = 11
  · rw [if_pos h11] at hs; unfold fixedCodesS at hs; cases hs
  rw [if_neg h11] at hs
  by_cases h12 : c.st = 12
  · rw [if_pos h12] at hs
    unfold literalS at hs
    repeat' (split at hs)
    all_goals first | (cases hs; done) | (injection hs with e; injection e with e1 e2; first | omega | exact e2.symm)
  rw [if_neg h12] at hs
  by_cases h13 : c.st = 13
  · rw [if_pos h13] at hs
    unfold copyLengthS at hs
    repeat' (split at hs)
    all_goals first | (cases hs; done) | (injection hs with e; injection e with e1 e2; first | omega | exact e2.symm)
  rw [if_neg h13] at hs
  by_cases h14 : c.st = 14
  · rw [if_pos h14] at hs
    unfold distanceS at hs
    repeat' (split at hs)
    all_goals first | (cases hs; done) | (injection hs with e; injection e with e1 e2; first | omega | exact e2.symm)
  rw [if_neg h14] at hs
  unfold copyDistanceS at hs
  repeat' (split at hs)
  all_goals first | (cases hs; done) | (injection hs with e; injection e with e1 e2; first | omega | exact e2.symm)
set_option maxRecDepth 100000 in
/-- The inflater, run from any state. -/
theorem inflate_run (q p hB g s B : Nat) (zs : List Int) (hz : Octets zs) (hzl : zs.length ≤ 65536) (c0 : IW zs) (w : World) (hM : IMem q p hB g s B zs .nilFunc w c0.1) (hn : w.cell? ⟨q, 1, none⟩ = some (inow q .nilFunc c0.1.st)) :
    Calls Tryz.prog 20 #[.pointer (some ⟨q, 0, none⟩)] w fun e w' => RunPost (inowO q) (istep s zs hzl) (fun W (c : IW zs) => IMem q p hB g s B zs .nilFunc W c.1) B c0 w e w' := by
  have hst : ∀ (c : IW zs) f caps, inowO q c = some (f, caps) → c.1.st ≤ 15 ∧ f = ifn c.1.st ∧ caps = #[.pointer (some ⟨q, 0, none⟩)] := by
    intro c f caps h
    unfold inowO at h
    split at h
    · rename_i h5
      injection h with h
      injection h with h1 h2
      exact ⟨h5, h1.symm, h2.symm⟩
    · cases h
  have hst2 : ∀ (c : IW zs), inowO q c ≠ none → c.1.st ≤ 15 := by
    intro c h
    unfold inowO at h
    split at h
    · assumption
    · exact absurd rfl h
  refine run_any q B (inowO q) (fun W (c : IW zs) => IMem q p hB g s B zs .nilFunc W c.1) (istep s zs hzl) (fun c => imu zs c.1) hM.bs.2.1 ?_ ?_ ?_ ?_ ?_ ?_ c0 w hM (by rw [inowO_v]; exact hn)
  · intro c f caps h args W
    obtain ⟨h5, rfl, _⟩ := hst c f caps h
    exact ifn_go _ h5 args W
  · intro W c h
    exact ⟨h.lm.c1, h.lm.free 1, h.lm.g0⟩
  · intro W c v h
    exact h.next v
  · intro W W' c h hb
    exact h.below hb
  · intro W c f caps h hMc
    obtain ⟨h5, rfl, rfl⟩ := hst c f caps h
    have hWc := c.2 h5
    refine Calls.mono (istate_any q p hB g s B zs .nilFunc c.1 W hMc hWc h5 hz hzl) ?_
    rintro e W' ⟨hy, hno⟩
    refine ⟨fun c' hc => ?_, fun k cf hc => ?_⟩
    · obtain ⟨h1, h2, h3⟩ := hy c'.1 (istep_inl h5 hc)
      exact ⟨by rw [inowO_v]; exact h1, h2, h3⟩
    · obtain ⟨c2, h1, h2, h3⟩ := istep_inr h5 hc
      obtain ⟨v, e1, h4, h6⟩ := hno k c2 h1
      refine ⟨v, e1, ?_, h6⟩
      by_cases hk : k = 2
      · subst hk
        have e2 := istep0_two hWc h1
        rw [h2 rfl]
        rw [e2] at h4
        exact h4
      · show IMem q p hB g s B zs .nilFunc W' cf.1
        rw [h3 hk]
        exact h4.stop
  · intro c c' h hs
    have h5 := hst2 c h
    exact (istep0_ok (c.2 h5) h5 hzl (istep_inl h5 hs)).2
end Go.Proofs.YtboniidgoepdcaaGreatDoor
namespace Go.Proofs.YtboniidgoepdcaaGreatDoor
open Go.RowKit
attribute [local go_sem ↓] Go.wp_at_zero Go.wp_at_succ
set_option linter.unusedVariables false

/-- An inflater that was just made. -/
structure INew (w : World) (q p g : Nat) : Prop where
  c0 : w.cell? ⟨q, 0, none⟩ = some (.pointer (some ⟨p, 0, none⟩))
  c1 : w.cell? ⟨q, 1, none⟩ = some (inow q .nilFunc 7)
  num : ∀ k, isNum k → w.cell? ⟨q, k, none⟩ = some (.int .i64 0)
  c25 : w.cell? ⟨q, 25, none⟩ = some (.pointer none)
  c26 : w.cell? ⟨q, 26, none⟩ = some (.slice none 0 0)
  c28 : w.cell? ⟨q, 28, none⟩ = some (inow q .nilFunc 6)
  c29 : w.cell? ⟨q, 29, none⟩ = some (.pointer (some ⟨g, 0, none⟩))
  c30 : w.cell? ⟨q, 30, none⟩ = some (.slice none 0 0)
  c31 : w.cell? ⟨q, 31, none⟩ = some (.bool false)
  c32 : w.cell? ⟨q, 32, none⟩ = some (.int .i64 0)
  c33 : w.cell? ⟨q, 33, none⟩ = some (.pointer none)
  c34 : w.cell? ⟨q, 34, none⟩ = some (.pointer none)
  c35 : w.cell? ⟨q, 35, none⟩ = some (.int .i64 0)
  c36 : w.cell? ⟨q, 36, none⟩ = some (.int .i64 0)
  c37 : w.cell? ⟨q, 37, none⟩ = some (.int .i64 0)
  c38 : w.cell? ⟨q, 38, none⟩ = some .nilFunc
  f : ∀ k, w.frozen? ⟨q, k, none⟩ = false
theorem INew.same {w w' : World} {q p g : Nat} (h : INew w q p g) (hb : w'.heap[q]? = w.heap[q]?) : INew w' q p g := by
  have hc : ∀ o, w'.cell? ⟨q, o, none⟩ = w.cell? ⟨q, o, none⟩ := fun o => World.cell?_of_block (w := w) (a := ⟨q, o, none⟩) hb
  exact ⟨(hc 0).trans h.c0, (hc 1).trans h.c1, fun k hk => (hc k).trans (h.num k hk), (hc 25).trans h.c25, (hc 26).trans h.c26, (hc 28).trans h.c28, (hc 29).trans h.c29, (hc 30).trans h.c30, (hc 31).trans h.c31, (hc 32).trans h.c32, (hc 33).trans h.c33, (hc 34).trans h.c34, (hc 35).trans h.c35, (hc 36).trans h.c36, (hc 37).trans h.c37, (hc 38).trans h.c38, fun k => (World.frozen?_of_block (w := w) (a := ⟨q, k, none⟩) hb).trans (h.f k)⟩
/-- Where inflating begins. -/
def ic0 (t : List Int) : IC := ⟨7, lc0 0, t, [], false, 0, false, [], [], 0, 0, 0⟩
theorem INew.mem {w : World} {q p hB g s B : Nat} {zs t : List Int} (h : INew w q p g) (hne : q ≠ p) (hbq : hB ≠ q) (hgq : g ≠ q) (hgp : g ≠ p) (hgb : g ≠ hB) (hG : 2 ≤ B) (bq : B ≤ q) (bp : B ≤ p) (bg : B ≤ g) (bb : 2 ≤ hB) (hbw : hB < w.heap.size) (hs : 0 < s ∧ s ≤ 32768) (hr : Rd w p hB zs 0) (hT : RingT w g s t) (hGl : Glob w) : IMem q p hB g s B zs .nilFunc w (ic0 t) := by
  refine ⟨⟨hne, hbq, ⟨by omega, by omega, bb⟩, hr, h.c0, ⟨_, h.c1⟩, h.num, ⟨_, h.c25⟩, h.c28, h.f, ⟨w.heap.size, _, World.block_lt_of_cell? w _ h.c0, hr.lt, hbw, Nat.le_refl _, h.c26, ⟨rfl, .inl ⟨rfl, rfl⟩⟩, fun h1 => absurd h1 (by show ¬ (1 : Nat) ≤ 0; omega), fun h1 => absurd h1 (by show ¬ (4 : Nat) ≤ 0; omega)⟩, hGl.g0, hGl.g1⟩, ⟨fun h1 => absurd h1 (by show ¬ (7 : Nat) ≤ 6; omega), fun _ => rfl⟩, ⟨hG, bq, bp, bg⟩, fun _ => False, ?_, ?_⟩
  · refine ⟨⟨hgq, hgp, hgb, fun h => h, fun h => h, fun h => h, fun h => h⟩, fun k h => h.elim, hs, hT, h.c29, ⟨none, 0, h.c30, ⟨rfl, .inl ⟨rfl, rfl⟩⟩, fun k e => by cases e⟩, h.c31, h.c32, ⟨fun _ => h.c33, fun e => by cases e⟩, ⟨⟨_, h.c34⟩, fun e1 _ => absurd e1 (by show ¬ (12 : Nat) ≤ 7; omega)⟩, h.c35, h.c36, h.c37, h.c38⟩
  · intro v k e1 e2
    rw [h.c26] at e1
    cases e1
    cases e2
set_option maxRecDepth 100000 in
set_option maxHeartbeats 3200000 in
theorem newInflater_any (g : Nat) (w : World) :
    Calls Tryz.prog 17 #[.pointer (some ⟨g, 0, none⟩)] w fun e w' => ∃ q p ao cap, e = .returned (.pointer (some ⟨q, 0, none⟩)) ∧ INew w' q p g ∧ Src w' p (.slice ao 0 cap) 0 0 ∧ OwnsB 5 w.heap.size w' ao cap [] ∧ w.heap.size < p ∧ p < q ∧ q < w'.heap.size ∧ blk ao ≠ some p ∧ blk ao ≠ some q ∧ Below w.heap.size w w' := by
  have NM := hideM (newMachine_any w)
  go_enter Tryz.func17, Tryz.ntmps17
  go_wp2_with fail
  refine Calls.mono NM.out ?_
  rintro e w1 ⟨p, a1, c1, rfl, hs, ho, hp, hp2, hne, hb⟩
  have bq : Below w1.heap.size w1 (w1.alloc (.cells #[.pointer (some ⟨p, 0, none⟩), .nilFunc, .int .i64 0, .int .i64 0, .int .i64 0, .int .i64 0, .int .i64 0, .int .i64 0, .int .i64 0, .int .i64 0, .int .i64 0, .int .i64 0, .int .i64 0, .int .i64 0, .int .i64 0, .int .i64 0, .int .i64 0, .int .i64 0, .int .i64 0, .int .i64 0, .int .i64 0, .int .i64 0, .int .i64 0, .int .i64 0, .int .i64 0, .pointer none, .slice none 0 0, .int .i64 0, .nilFunc, .pointer (some ⟨g, 0, none⟩), .slice none 0 0, .bool false, .int .i64 0, .pointer none, .pointer none, .int .i64 0, .int .i64 0, .int .i64 0, .nilFunc] 63)) := (Below.refl _ _).alloc (Nat.le_refl _) _
  have HC : Hid (∀ i : Nat, (w1.alloc (.cells #[.pointer (some ⟨p, 0, none⟩), .nilFunc, .int .i64 0, .int .i64 0, .int .i64 0, .int .i64 0, .int .i64 0, .int .i64 0, .int .i64 0, .int .i64 0, .int .i64 0, .int .i64 0, .int .i64 0, .int .i64 0, .int .i64 0, .int .i64 0, .int .i64 0, .int .i64 0, .int .i64 0, .int .i64 0, .int .i64 0, .int .i64 0, .int .i64 0, .int .i64 0, .int .i64 0, .pointer none, .slice none 0 0, .int .i64 0, .nilFunc, .pointer (some ⟨g, 0, none⟩), .slice none 0 0, .bool false, .int .i64 0, .pointer none, .pointer none, .int .i64 0, .int .i64 0, .int .i64 0, .nilFunc] 63)).cell? ⟨w1.heap.size, i, none⟩ = (#[.pointer (some ⟨p, 0, none⟩), .nilFunc, .int .i64 0, .int .i64 0, .int .i64 0, .int .i64 0, .int .i64 0, .int .i64 0, .int .i64 0, .int .i64 0, .int .i64 0, .int .i64 0, .int .i64 0, .int .i64 0, .int .i64 0, .int .i64 0, .int .i64 0, .int .i64 0, .int .i64 0, .int .i64 0, .int .i64 0, .int .i64 0, .int .i64 0, .int .i64 0, .int .i64 0, .pointer none, .slice none 0 0, .int .i64 0, .nilFunc, .pointer (some ⟨g, 0, none⟩), .slice none 0 0, .bool false, .int .i64 0, .pointer none, .pointer none, .int .i64 0, .int .i64 0, .int .i64 0, .nilFunc] : Array Value)[i]?) := fun i => by simp [go_sem]
  have HZ : Hid (∀ i : Nat, (w1.alloc (.cells #[.pointer (some ⟨p, 0, none⟩), .nilFunc, .int .i64 0, .int .i64 0, .int .i64 0, .int .i64 0, .int .i64 0, .int .i64 0, .int .i64 0, .int .i64 0, .int .i64 0, .int .i64 0, .int .i64 0, .int .i64 0, .int .i64 0, .int .i64 0, .int .i64 0, .int .i64 0, .int .i64 0, .int .i64 0, .int .i64 0, .int .i64 0, .int .i64 0, .int .i64 0, .int .i64 0, .pointer none, .slice none 0 0, .int .i64 0, .nilFunc, .pointer (some ⟨g, 0, none⟩), .slice none 0 0, .bool false, .int .i64 0, .pointer none, .pointer none, .int .i64 0, .int .i64 0, .int .i64 0, .nilFunc] 63)).frozen? ⟨w1.heap.size, i, none⟩ = false) := fun i => by simp [go_sem]
  have zq : (w1.alloc (.cells #[.pointer (some ⟨p, 0, none⟩), .nilFunc, .int .i64 0, .int .i64 0, .int .i64 0, .int .i64 0, .int .i64 0, .int .i64 0, .int .i64 0, .int .i64 0, .int .i64 0, .int .i64 0, .int .i64 0, .int .i64 0, .int .i64 0, .int .i64 0, .int .i64 0, .int .i64 0, .int .i64 0, .int .i64 0, .int .i64 0, .int .i64 0, .int .i64 0, .int .i64 0, .int .i64 0, .pointer none, .slice none 0 0, .int .i64 0, .nilFunc, .pointer (some ⟨g, 0, none⟩), .slice none 0 0, .bool false, .int .i64 0, .pointer none, .pointer none, .int .i64 0, .int .i64 0, .int .i64 0, .nilFunc] 63)).heap.size = w1.heap.size + 1 := by simp
  have S1 := hideM (hs.grown (grownBy_of_below bq none) (by simp))
  have O1 := hideM (OwnsB.below ho bq)
  have B1 := hideM (hb.trans (bq.mono hb.size))
  have L1 : Hid (∀ k, blk a1 = some k → k < w1.heap.size) := by
    intro k e
    cases a1 with
    | none => cases e
    | some ad =>
      have := (ho.mine.lies ad rfl).2.1
      simp [blk] at e
      omega
  have HNE := hideM hne
  have hww : w.heap.size ≤ w1.heap.size := hb.size
  clear hs ho hb hne bq NM
  go_upto_region 2 with fail
  obtain ⟨q, hq⟩ : ∃ q, w1.heap.size = q := ⟨_, rfl⟩
  rw [hq] at HC HZ zq L1 hp2 hww ⊢
  generalize w1.alloc (.cells #[.pointer (some ⟨p, 0, none⟩), .nilFunc, .int .i64 0, .int .i64 0, .int .i64 0, .int .i64 0, .int .i64 0, .int .i64 0, .int .i64 0, .int .i64 0, .int .i64 0, .int .i64 0, .int .i64 0, .int .i64 0, .int .i64 0, .int .i64 0, .int .i64 0, .int .i64 0, .int .i64 0, .int .i64 0, .int .i64 0, .int .i64 0, .int .i64 0, .int .i64 0, .int .i64 0, .pointer none, .slice none 0 0, .int .i64 0, .nilFunc, .pointer (some ⟨g, 0, none⟩), .slice none 0 0, .bool false, .int .i64 0, .pointer none, .pointer none, .int .i64 0, .int .i64 0, .int .i64 0, .nilFunc] 63) = W1 at *
  clear hq
  have k1 : W1.cell? ⟨q, 1, none⟩ = some .nilFunc := HC.out 1
  have k28 : W1.cell? ⟨q, 28, none⟩ = some .nilFunc := HC.out 28
  have l1 := HZ.out 1
  have hqw : q < W1.heap.size := by omega
  have st1 := store_func W1 ⟨q, 1, none⟩ (Fn.func 31) #[.pointer (some ⟨q, 0, none⟩)] #[] _ k1 l1
  have k28' : (W1.setCell ⟨q, 1, none⟩ (.func (Fn.func 31) #[.pointer (some ⟨q, 0, none⟩)] #[])).cell? ⟨q, 28, none⟩ = some .nilFunc := (World.cell?_setCell_other _ _ _ _ (by simp)).trans k28
  have l28' : (W1.setCell ⟨q, 1, none⟩ (.func (Fn.func 31) #[.pointer (some ⟨q, 0, none⟩)] #[])).frozen? ⟨q, 28, none⟩ = false := by rw [World.frozen?_setCell]; exact HZ.out 28
  have st2 := store_func (W1.setCell ⟨q, 1, none⟩ (.func (Fn.func 31) #[.pointer (some ⟨q, 0, none⟩)] #[])) ⟨q, 28, none⟩ (Fn.func 32) #[.pointer (some ⟨q, 0, none⟩)] #[] _ k28' l28'
  have hqw2 : q < (W1.setCell ⟨q, 1, none⟩ (.func (Fn.func 31) #[.pointer (some ⟨q, 0, none⟩)] #[])).heap.size := by simpa using hqw
  have g1 := grownBy_setCell W1 ⟨q, 1, none⟩ (.func (Fn.func 31) #[.pointer (some ⟨q, 0, none⟩)] #[])
  have g2 := grownBy_setCell (W1.setCell ⟨q, 1, none⟩ (.func (Fn.func 31) #[.pointer (some ⟨q, 0, none⟩)] #[])) ⟨q, 28, none⟩ (.func (Fn.func 32) #[.pointer (some ⟨q, 0, none⟩)] #[])
  have hc : ∀ o v, o ≠ 1 → o ≠ 28 → (#[.pointer (some ⟨p, 0, none⟩), .nilFunc, .int .i64 0, .int .i64 0, .int .i64 0, .int .i64 0, .int .i64 0, .int .i64 0, .int .i64 0, .int .i64 0, .int .i64 0, .int .i64 0, .int .i64 0, .int .i64 0, .int .i64 0, .int .i64 0, .int .i64 0, .int .i64 0, .int .i64 0, .int .i64 0, .int .i64 0, .int .i64 0, .int .i64 0, .int .i64 0, .int .i64 0, .pointer none, .slice none 0 0, .int .i64 0, .nilFunc, .pointer (some ⟨g, 0, none⟩), .slice none 0 0, .bool false, .int .i64 0, .pointer none, .pointer none, .int .i64 0, .int .i64 0, .int .i64 0, .nilFunc] : Array Value)[o]? = some v → ((W1.setCell ⟨q, 1, none⟩ (.func (Fn.func 31) #[.pointer (some ⟨q, 0, none⟩)] #[])).setCell ⟨q, 28, none⟩ (.func (Fn.func 32) #[.pointer (some ⟨q, 0, none⟩)] #[])).cell? ⟨q, o, none⟩ = some v := by
    intro o v h1 h2 h3
    rw [World.cell?_setCell_other _ _ _ _ (by first | (simp; done) | (simp; omega)), World.cell?_setCell_other _ _ _ _ (by first | (simp; done) | (simp; omega)), HC.out o]
    exact h3
  have FIN : Hid (INew ((W1.setCell ⟨q, 1, none⟩ (.func (Fn.func 31) #[.pointer (some ⟨q, 0, none⟩)] #[])).setCell ⟨q, 28, none⟩ (.func (Fn.func 32) #[.pointer (some ⟨q, 0, none⟩)] #[])) q p g) := by
    refine ⟨hc 0 _ (by omega) (by omega) rfl, ?_, fun k hk => ?_, hc 25 _ (by omega) (by omega) rfl, hc 26 _ (by omega) (by omega) rfl, World.cell?_setCell_same _ _ _ k28', hc 29 _ (by omega) (by omega) rfl, hc 30 _ (by omega) (by omega) rfl, hc 31 _ (by omega) (by omega) rfl, hc 32 _ (by omega) (by omega) rfl, hc 33 _ (by omega) (by omega) rfl, hc 34 _ (by omega) (by omega) rfl, hc 35 _ (by omega) (by omega) rfl, hc 36 _ (by omega) (by omega) rfl, hc 37 _ (by omega) (by omega) rfl, hc 38 _ (by omega) (by omega) rfl, fun k => ?_⟩
    · rw [World.cell?_setCell_other _ _ _ _ (by simp)]
      exact World.cell?_setCell_same _ _ _ k1
    · have h3 : k = 2 ∨ k = 3 ∨ k = 4 ∨ k = 5 ∨ k = 6 ∨ k = 7 ∨ k = 8 ∨ k = 9 ∨ k = 10 ∨ k = 11 ∨ k = 12 ∨ k = 13 ∨ k = 14 ∨ k = 15 ∨ k = 16 ∨ k = 17 ∨ k = 18 ∨ k = 19 ∨ k = 20 ∨ k = 21 ∨ k = 22 ∨ k = 23 ∨ k = 24 ∨ k = 27 := by unfold isNum at hk; omega
      rcases h3 with rfl | rfl | rfl | rfl | rfl | rfl | rfl | rfl | rfl | rfl | rfl | rfl | rfl | rfl | rfl | rfl | rfl | rfl | rfl | rfl | rfl | rfl | rfl | rfl <;> exact hc _ _ (by omega) (by omega) rfl
    · rw [World.frozen?_setCell, World.frozen?_setCell]
      exact HZ.out k
  have S3 := hideM ((S1.out.grown g1 (by simp; omega)).grown g2 (by simp; omega))
  have O3 := hideM ((OwnsB.grown O1.out g1 (fun k e e2 => by have := L1.out k e2; simp at e; omega)).grown g2 (fun k e e2 => by have := L1.out k e2; simp at e; omega))
  have B3 := hideM ((B1.out.grown g1 (by omega) (fun k e => by simp at e; omega)).grown g2 (by have := g1.size; omega) (fun k e => by simp at e; omega))
  have z3 : q < ((W1.setCell ⟨q, 1, none⟩ (.func (Fn.func 31) #[.pointer (some ⟨q, 0, none⟩)] #[])).setCell ⟨q, 28, none⟩ (.func (Fn.func 32) #[.pointer (some ⟨q, 0, none⟩)] #[])).heap.size := by have := g1.size; have := g2.size; omega
  have HQ : Hid (blk a1 ≠ some q) := fun e => by have := L1.out q e; omega
  clear hc g1 g2 S1 O1 B1 L1 HC HZ k1 k28 l1 zq
  go_wp2_with fail
  go_ret
  exact ⟨q, p, a1, c1, rfl, FIN.out, S3.out, O3.out, by omega, hp2, z3, HNE.out, HQ.out, B3.out⟩
end Go.Proofs.YtboniidgoepdcaaGreatDoor
