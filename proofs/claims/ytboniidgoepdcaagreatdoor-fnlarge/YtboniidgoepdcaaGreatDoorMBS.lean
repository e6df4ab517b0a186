import Derived.Test.YtboniidgoepdcaaGreatDoorMBB
import Derived.Test.YtboniidgoepdcaaGreatDoorMBR
namespace Go.Proofs.YtboniidgoepdcaaGreatDoor
open Go.RowKit
attribute [local go_sem ↓] Go.wp_at_zero Go.wp_at_succ
set_option linter.unusedVariables false

theorem igo_dynamicCodes (args : Array Value) (W : World) : Sem.run Tryz.prog (callFunc 32 args) W = .ok (.enter 32 args) W := by kernel_rfl
theorem igo_blockHead (args : Array Value) (W : World) : Sem.run Tryz.prog (callFunc 31 args) W = .ok (.enter 31 args) W := by kernel_rfl
theorem igo_blockEnd (args : Array Value) (W : World) : Sem.run Tryz.prog (callFunc 68 args) W = .ok (.enter 68 args) W := by kernel_rfl
theorem igo_storedHead (args : Array Value) (W : World) : Sem.run Tryz.prog (callFunc 46 args) W = .ok (.enter 46 args) W := by kernel_rfl
theorem igo_storedBytes (args : Array Value) (W : World) : Sem.run Tryz.prog (callFunc 62 args) W = .ok (.enter 62 args) W := by kernel_rfl
theorem igo_fixedCodes (args : Array Value) (W : World) : Sem.run Tryz.prog (callFunc 47 args) W = .ok (.enter 47 args) W := by kernel_rfl
theorem igo_literal (args : Array Value) (W : World) : Sem.run Tryz.prog (callFunc 51 args) W = .ok (.enter 51 args) W := by kernel_rfl
theorem igo_copyLength (args : Array Value) (W : World) : Sem.run Tryz.prog (callFunc 70 args) W = .ok (.enter 70 args) W := by kernel_rfl
theorem igo_distance (args : Array Value) (W : World) : Sem.run Tryz.prog (callFunc 83 args) W = .ok (.enter 83 args) W := by kernel_rfl
theorem igo_copyDistance (args : Array Value) (W : World) : Sem.run Tryz.prog (callFunc 92 args) W = .ok (.enter 92 args) W := by kernel_rfl
theorem ifn_go (s : Nat) (hs : s ≤ 15) (args : Array Value) (W : World) : Sem.run Tryz.prog (callFunc (ifn s) args) W = .ok (.enter (ifn s) args) W := by
  by_cases h5 : s ≤ 5
  · rw [ifn_le s h5]
    exact lfn_go s h5 args W
  · have h3 : s = 6 ∨ s = 7 ∨ s = 8 ∨ s = 9 ∨ s = 10 ∨ s = 11 ∨ s = 12 ∨ s = 13 ∨ s = 14 ∨ s = 15 := by omega
    rcases h3 with rfl | rfl | rfl | rfl | rfl | rfl | rfl | rfl | rfl | rfl
    · exact igo_dynamicCodes args W
    · exact igo_blockHead args W
    · exact igo_blockEnd args W
    · exact igo_storedHead args W
    · exact igo_storedBytes args W
    · exact igo_fixedCodes args W
    · exact igo_literal args W
    · exact igo_copyLength args W
    · exact igo_distance args W
    · exact igo_copyDistance args W
/-- Which state comes next is no matter of the memory's. -/
theorem IMem.next {q p hB g s B : Nat} {zs : List Int} {aft : Value} {w : World} {c : IC} (h : IMem q p hB g s B zs aft w c) (v : Value) : IMem q p hB g s B zs aft (w.setCell ⟨q, 1, none⟩ v) c := by
  obtain ⟨T, hR, h26⟩ := h.ex
  obtain ⟨g1, g2, g3, g4, g5, g6, g7⟩ := hR.ne
  have hg := grownBy_setCell w ⟨q, 1, none⟩ v
  have hc : ∀ o, o ≠ 1 → (w.setCell ⟨q, 1, none⟩ v).cell? ⟨q, o, none⟩ = w.cell? ⟨q, o, none⟩ := fun o ho => World.cell?_setCell_other _ _ _ _ (by first | (simp; done) | (simp; omega))
  have hgl : g < w.heap.size := by obtain ⟨rs, p, c, h1, _⟩ := hR.rg; exact h1.lt
  have hb : ∀ k, k < w.heap.size → k ≠ q → (w.setCell ⟨q, 1, none⟩ v).heap[k]? = w.heap[k]? := fun k hk hne => hg.block k hk (by simp; exact hne)
  refine ⟨h.lm.next v, h.ls, h.bs, T, hR.keep hg.size (fun o ho => hc o (by omega)) (fun k hk => hb k (hR.tlt k hk) (fun e => g5 (e ▸ hk))) (hb g hgl g1) (fun ao n cap k e1 e2 => hb k (hR.at30 ao n cap k e1 e2).1 (hR.at30 ao n cap k e1 e2).2.2.2.1), ?_⟩
  intro u k e1 e2
  rw [hc 26 (by omega)] at e1
  rw [hc 30 (by omega)]
  exact h26 u k e1 e2
/-- Where an inflater stands that has met its end. -/
def iStop (c : IC) : IC := { c with st := 16, lc := { c.lc with st := 0 } }
theorem IMem.stop {q p hB g s B : Nat} {zs : List Int} {aft : Value} {w : World} {c : IC} (h : IMem q p hB g s B zs aft w c) : IMem q p hB g s B zs aft w (iStop c) := by
  obtain ⟨T, hR, h26⟩ := h.ex
  refine ⟨h.lm.at 0 (fun h => by omega) (fun h => by omega), ⟨fun e => by show (0 : Nat) = 16; have : 16 ≤ 6 := e; omega, fun _ => rfl⟩, h.bs, T, ?_, h26⟩
  exact { hR with c34 := ⟨hR.c34.1, fun _ e2 => by have : 16 ≤ 15 := e2; omega⟩ }
/-- Where an inflater stands, its numbers well unless it has ended. -/
abbrev IW (zs : List Int) := { c : IC // c.st ≤ 15 → IWell zs c }
/-- A step, where a fault for good is its end. -/
def istep (s : Nat) (zs : List Int) (hzl : zs.length ≤ 65536) (c : IW zs) : IW zs ⊕ (Int × IW zs) :=
  if h15 : c.1.st ≤ 15 then
    match hs : istep0 s zs c.1 with
    | .inl c' => .inl ⟨c', fun _ => (istep0_ok (c.2 h15) h15 hzl hs).1⟩
    | .inr (k, cf) => .inr (k, if k = 2 then c else ⟨iStop cf, fun h => absurd h (by show ¬ (16 : Nat) ≤ 15; omega)⟩)
  else .inr (0, c)
theorem istep_inl {s : Nat} {zs : List Int} {hzl : zs.length ≤ 65536} {c c' : IW zs} (h15 : c.1.st ≤ 15) (h : istep s zs hzl c = .inl c') : istep0 s zs c.1 = .inl c'.1 := by
  unfold istep at h
  rw [dif_pos h15] at h
  split at h
  · rename_i c2 hs
    injection h with h
    rw [← h]
    exact hs
  · cases h
theorem istep_inr {s : Nat} {zs : List Int} {hzl : zs.length ≤ 65536} {c cf : IW zs} {k : Int} (h15 : c.1.st ≤ 15) (h : istep s zs hzl c = .inr (k, cf)) : ∃ c2, istep0 s zs c.1 = .inr (k, c2) ∧ (k = 2 → cf = c) ∧ (k ≠ 2 → cf.1 = iStop c2) := by
  unfold istep at h
  rw [dif_pos h15] at h
  split at h
  · cases h
  · rename_i k2 c2 hs
    injection h with h
    injection h with h1 h2
    subst h1
    refine ⟨c2, hs, fun e => ?_, fun e => ?_⟩
    · rw [if_pos e] at h2
      exact h2.symm
    · rw [if_neg e] at h2
      rw [← h2]
def inowO (q : Nat) {zs : List Int} (c : IW zs) : Option (Nat × Array Value) := if c.1.st ≤ 15 then some (ifn c.1.st, #[.pointer (some ⟨q, 0, none⟩)]) else none
theorem inowO_v (q : Nat) {zs : List Int} (c : IW zs) : nowV (inowO q) c = inow q .nilFunc c.1.st := by
  unfold nowV inowO inow
  by_cases h : c.1.st ≤ 15
  · rw [if_pos h, if_pos h]
  · rw [if_neg h, if_neg h]
theorem addS_two {c cf : LC} {v : Int} {t : Nat} (hs : addS c v t = .inr (2, cf)) : False := by
  unfold addS at hs
  repeat' (split at hs)
  all_goals first | (cases hs; done) | (injection hs with e; injection e with e1 e2; omega)
theorem lstep0_two {zs : List Int} {c cf : LC} (hs : lstep0 zs c = .inr (2, cf)) : cf = c := by
  unfold lstep0 at hs
  split at hs
  · unfold litCountS at hs
    repeat' (split at hs)
    all_goals first | (cases hs; done) | (injection hs with e; injection e with e1 e2; first | omega | exact e2.symm)
  · split at hs
    · unfold distCountS at hs
      repeat' (split at hs)
      all_goals first | (cases hs; done) | (injection hs with e; injection e with e1 e2; first | omega | exact e2.symm)
    · split at hs
      · unfold codeCountS at hs
        repeat' (split at hs)
        all_goals first | (cases hs; done) | (injection hs with e; injection e with e1 e2; first | omega | exact e2.symm)
      · split at hs
        · unfold codeLenS at hs
          repeat' (split at hs)
          all_goals first | (cases hs; done) | (injection hs with e; injection e with e1 e2; first | omega | exact e2.symm)
        · split at hs
          · unfold nextLenS at hs
            repeat' (split at hs)
            all_goals first | exact (addS_two hs).elim | (cases hs; done) | (injection hs with e; injection e with e1 e2; first | omega | exact e2.symm)
          · unfold repeatS at hs
            repeat' (split at hs)
            all_goals first | exact (addS_two hs).elim | (cases hs; done) | (injection hs with e; injection e with e1 e2; first | omega | exact e2.symm)
theorem istep0_two {s : Nat} {zs : List Int} {c cf : IC} (hW : IWell zs c) (hs : istep0 s zs c = .inr (2, cf)) : cf = c := by
  unfold istep0 at hs
  by_cases h5 : c.st ≤ 5
  · rw [if_pos h5] at hs
    cases hl : lstep0 zs c.lc with
    | inl l => rw [hl] at hs; cases hs
    | inr x =>
      rw [hl] at hs
      obtain ⟨k, l⟩ := x
      injection hs with e
      injection e with e1 e2
      dsimp only at e1 e2
      subst e1
      have := lstep0_two hl
      subst this
      have hst := (hW.lens (by omega)).2
      rw [← e2, hst]
  rw [if_neg h5] at hs
  by_cases h6 : c.st = 6
  · rw [if_pos h6] at hs; unfold dynamicCodesS at hs; cases hs
  rw [if_neg h6] at hs
  by_cases h7 : c.st = 7
  · rw [if_pos h7] at hs
    unfold blockHeadS at hs
    repeat' (split at hs)
    all_goals first | (cases hs; done) | (injection hs with e; injection e with e1 e2; first | omega | exact e2.symm)
  rw [if_neg h7] at hs
  by_cases h8 : c.st = 8
  · rw [if_pos h8] at hs
    unfold blockEndS at hs
    split at hs <;> cases hs
  rw [if_neg h8] at hs
  by_cases h9 : c.st = 9
  · rw [if_pos h9] at hs
    unfold storedHeadS at hs
    repeat' (split at hs)
    all_goals first | (cases hs; done) | (injection hs with e; injection e with e1 e2; first | omega | exact e2.symm)
  rw [if_neg h9] at hs
  by_cases h10 : c.st = 10
  · rw [if_pos h10] at hs
    unfold storedBytesS at hs
    repeat' (split at hs)
    all_goals first | (cases hs; done) | (injection hs with e; injection e with e1 e2; first | omega | exact e2.symm)
  rw [if_neg h10] at hs
  by_cases h11 : c.st = 11
  · rw [if_pos h11] at hs; unfold fixedCodesS at hs; cases hs
  rw [if_neg h11] at hs
  by_cases h12 : c.st = 12
  · rw [if_pos h12] at hs
    unfold literalS at hs
    repeat' (split at hs)
    all_goals first | (cases hs; done) | (injection hs with e; injection e with e1 e2; first | omega | exact e2.symm)
  rw [if_neg h12] at hs
  by_cases h13 : c.st = 13
  · rw [if_pos h13] at hs
    unfold copyLengthS at hs
    repeat' (split at hs)
    all_goals first | (cases hs; done) | (injection hs with e; injection e with e1 e2; first | omega | exact e2.symm)
  rw [if_neg h13] at hs
  by_cases h14 : c.st = 14
  · rw [if_pos h14] at hs
    unfold distanceS at hs
    repeat' (split at hs)
    all_goals first | (cases hs; done) | (injection hs with e; injection e with e1 e2; first | omega | exact e2.symm)
  rw [if_neg h14] at hs
  unfold copyDistanceS at hs
  repeat' (split at hs)
  all_goals first | (cases hs; done) | (injection hs with e; injection e with e1 e2; first | omega | exact e2.symm)
set_option maxRecDepth 100000 in
/-- The inflater, run from any state. -/
theorem inflate_run (q p hB g s B : Nat) (zs : List Int) (hz : Octets zs) (hzl : zs.length ≤ 65536) (c0 : IW zs) (w : World) (hM : IMem q p hB g s B zs .nilFunc w c0.1) (hn : w.cell? ⟨q, 1, none⟩ = some (inow q .nilFunc c0.1.st)) :
    Calls Tryz.prog 20 #[.pointer (some ⟨q, 0, none⟩)] w fun e w' => RunPost (inowO q) (istep s zs hzl) (fun W (c : IW zs) => IMem q p hB g s B zs .nilFunc W c.1) B c0 w e w' := by
  have hst : ∀ (c : IW zs) f caps, inowO q c = some (f, caps) → c.1.st ≤ 15 ∧ f = ifn c.1.st ∧ caps = #[.pointer (some ⟨q, 0, none⟩)] := by
    intro c f caps h
    unfold inowO at h
    split at h
    · rename_i h5
      injection h with h
      injection h with h1 h2
      exact ⟨h5, h1.symm, h2.symm⟩
    · cases h
  have hst2 : ∀ (c : IW zs), inowO q c ≠ none → c.1.st ≤ 15 := by
    intro c h
    unfold inowO at h
    split at h
    · assumption
    · exact absurd rfl h
  refine run_any q B (inowO q) (fun W (c : IW zs) => IMem q p hB g s B zs .nilFunc W c.1) (istep s zs hzl) (fun c => imu zs c.1) hM.bs.2.1 ?_ ?_ ?_ ?_ ?_ ?_ c0 w hM (by rw [inowO_v]; exact hn)
  · intro c f caps h args W
    obtain ⟨h5, rfl, _⟩ := hst c f caps h
    exact ifn_go _ h5 args W
  · intro W c h
    exact ⟨h.lm.c1, h.lm.free 1, h.lm.g0⟩
  · intro W c v h
    exact h.next v
  · intro W W' c h hb
    exact h.below hb
  · intro W c f caps h hMc
    obtain ⟨h5, rfl, rfl⟩ := hst c f caps h
    have hWc := c.2 h5
    refine Calls.mono (istate_any q p hB g s B zs .nilFunc c.1 W hMc hWc h5 hz hzl) ?_
    rintro e W' ⟨hy, hno⟩
    refine ⟨fun c' hc => ?_, fun k cf hc => ?_⟩
    · obtain ⟨h1, h2, h3⟩ := hy c'.1 (istep_inl h5 hc)
      exact ⟨by rw [inowO_v]; exact h1, h2, h3⟩
    · obtain ⟨c2, h1, h2, h3⟩ := istep_inr h5 hc
      obtain ⟨v, e1, h4, h6⟩ := hno k c2 h1
      refine ⟨v, e1, ?_, h6⟩
      by_cases hk : k = 2
      · subst hk
        have e2 := istep0_two hWc h1
        rw [h2 rfl]
        rw [e2] at h4
        exact h4
      · show IMem q p hB g s B zs .nilFunc W' cf.1
        rw [h3 hk]
        exact h4.stop
  · intro c c' h hs
    have h5 := hst2 c h
    exact (istep0_ok (c.2 h5) h5 hzl (istep_inl h5 hs)).2
end Go.Proofs.YtboniidgoepdcaaGreatDoor
