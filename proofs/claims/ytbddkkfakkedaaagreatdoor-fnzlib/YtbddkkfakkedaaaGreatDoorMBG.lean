import Derived.Test.YtbddkkfakkedaaaGreatDoorMBF
namespace Go.Proofs.YtbddkkfakkedaaaGreatDoor
open Go.RowKit
attribute [local go_sem ↓] Go.wp_at_zero Go.wp_at_succ
set_option linter.unusedVariables false

/-- A symbol is one of the code's. -/
theorem AnsN.sym {ls : List Int} {b n s l : Nat} (h : AnsN ls b n 1 s l) : s < ls.length := by
  unfold AnsN at h
  split at h
  · rcases h with ⟨i, h1, h2, _, h3, h4⟩ | ⟨i, _, _, h3, _⟩ | ⟨_, h3, _⟩
    · have h6 := h1.1.lt
      omega
    · omega
    · omega
  · omega
theorem nx3_sym {ls : List Int} {b n : Nat} (h : (nx3 ls b n).1 = 1) : (nx3 ls b n).2.1 < ls.length ∧ (nx3 ls b n).2.2 ≤ n := by
  have h2 := nx3_is ls b n
  rw [h] at h2
  exact ⟨h2.sym, h2.len.1⟩
/-- Which state comes next is no matter of the memory's. -/
theorem LMem.next {q p hB : Nat} {zs : List Int} {rdy : Value} {w : World} {c : LC} (h : LMem q p hB zs rdy w c) (v : Value) : LMem q p hB zs rdy (w.setCell ⟨q, 1, none⟩ v) c := by
  have hq := h.lt
  have hc : ∀ o, o ≠ 1 → (w.setCell ⟨q, 1, none⟩ v).cell? ⟨q, o, none⟩ = w.cell? ⟨q, o, none⟩ := fun o ho => World.cell?_setCell_other _ _ _ _ (by first | (simp; done) | (simp; omega))
  have hg := grownBy_setCell w ⟨q, 1, none⟩ v
  obtain ⟨B, u, b1, b2, b3, b4, b5, b6, b7, b8⟩ := h.own
  obtain ⟨old, ho⟩ := h.c1
  refine ⟨h.ne, h.neh, h.two, h.rd.grown hg (by simp; exact Ne.symm h.ne) (by simp; exact h.neh), (hc 0 (by omega)).trans h.c0, ⟨v, World.cell?_setCell_same _ _ _ ho⟩, ?_, ?_, (hc 28 (by omega)).trans h.c28, ?_, ?_, ?_, ?_⟩
  · intro j hj
    rw [hc j (by unfold isNum at hj; omega)]
    exact h.num j hj
  · obtain ⟨old, ho⟩ := h.c25
    exact ⟨old, (hc 25 (by omega)).trans ho⟩
  · intro j
    rw [World.frozen?_setCell]
    exact h.free j
  · refine ⟨B, u, b1, b2, b3, Nat.le_trans b4 hg.size, (hc 26 (by omega)).trans b5, ?_, b7, ?_⟩
    · refine b6.kept hg ?_
      obtain ⟨_, hx⟩ := b6
      rcases hx with ⟨rfl, _⟩ | ⟨g, cap, cur, rfl, hb, _⟩
      · exact .inl rfl
      · refine .inr ?_
        simp [Value.ownBlock]
        omega
    · intro hs
      obtain ⟨t, S, m, L, w0, h1, h2, h3, h4, h5, h6⟩ := b8 hs
      refine ⟨t, S, m, L, w0, (hc 25 (by omega)).trans h1, h2, h3, h4, h5, fun j k1 k2 => ?_⟩
      rw [← h6 j k1 k2]
      exact hg.block j (by omega) (by simp; omega)
  · exact hg.cell h.g0 (by simp; have := h.two; omega)
  · exact fun k hk => hg.cell (h.g1 k hk) (by simp; have := h.two; omega)
end Go.Proofs.YtbddkkfakkedaaaGreatDoor
namespace Go.Proofs.YtbddkkfakkedaaaGreatDoor
open Go.RowKit
attribute [local go_sem ↓] Go.wp_at_zero Go.wp_at_succ
set_option linter.unusedVariables false

/-- What the machine's numbers keep to. -/
structure LWell (c : LC) : Prop where
  s6 : c.st ≤ 6
  lit : 1 ≤ c.st → 257 ≤ c.f 2 ∧ c.f 2 ≤ 286
  dist : 2 ≤ c.st → 1 ≤ c.f 3 ∧ c.f 3 ≤ 30
  zero : 1 ≤ c.st → c.st ≤ 2 → c.f 24 = 0
  cod : c.st = 3 → 0 ≤ c.f 24 ∧ c.f 24 < c.f 4 ∧ c.f 4 ≤ 19
  len0 : 1 ≤ c.st → c.st ≤ 3 → c.lens = []
  len : 4 ≤ c.st → c.st ≤ 5 → (c.lens.length : Int) < c.f 2 + c.f 3
  tb : 4 ≤ c.st → c.tb.length = 19
  rep : c.st = 5 → (c.f 27 = 16 ∧ 0 < c.lens.length) ∨ c.f 27 = 17 ∨ c.f 27 = 18
theorem LWell.none (c : LC) (h : c.st = 0) : LWell c := by
  refine ⟨?_, ?_, ?_, ?_, ?_, ?_, ?_, ?_, ?_⟩ <;> (intros; omega)
theorem LWell.inv {c : LC} (h : LWell c) (h4 : 4 ≤ c.st) (h5 : c.st ≤ 5) : LInv c :=
  ⟨h4, (h.lit (by omega)).1, (h.lit (by omega)).2, (h.dist (by omega)).1, (h.dist (by omega)).2, h.len h4 h5⟩
theorem lit_well {zs : List Int} {c c' : LC} (h : LWell c) (hs : litCountS zs c = .inl c') : LWell c' := by
  unfold litCountS at hs
  split at hs
  · split at hs
    · cases hs
    · rename_i h1 h2
      injection hs with hs
      subst hs
      have e2 : upd (clr (upd c.f 2 ((field (bnum zs) c.i 5 : Nat) + 257))) 24 0 2 = (field (bnum zs) c.i 5 : Nat) + 257 := by simp [upd, clr]
      refine ⟨by show 1 ≤ 6; omega, fun _ => ?_, fun h => ?_, fun _ _ => ?_, fun h => ?_, fun _ _ => rfl, fun h => ?_, fun h => ?_, fun h => ?_⟩
      · dsimp only
        rw [e2]; omega
      · have : 2 ≤ 1 := h
        omega
      · dsimp only
        simp [upd]
      · have : (1 : Nat) = 3 := h
        omega
      · have : 4 ≤ 1 := h
        omega
      · have : 4 ≤ 1 := h
        omega
      · have : (1 : Nat) = 5 := h
        omega
  · cases hs
theorem dist_well {zs : List Int} {c c' : LC} (h : LWell c) (h1 : c.st = 1) (hs : distCountS zs c = .inl c') : LWell c' := by
  unfold distCountS at hs
  split at hs
  · split at hs
    · cases hs
    · rename_i _ h2
      injection hs with hs
      subst hs
      refine ⟨by show 2 ≤ 6; omega, fun _ => ?_, fun _ => ?_, fun _ _ => ?_, fun h => ?_, fun _ _ => h.len0 (by omega) (by omega), fun h => ?_, fun h => ?_, fun h => ?_⟩
      · dsimp only
        rw [upd, if_neg (by decide)]
        exact h.lit (by omega)
      · dsimp only
        rw [upd, if_pos rfl]
        omega
      · dsimp only
        rw [upd, if_neg (by decide)]
        exact h.zero (by omega) (by omega)
      · have : (2 : Nat) = 3 := h
        omega
      · have : 4 ≤ 2 := h
        omega
      · have : 4 ≤ 2 := h
        omega
      · have : (2 : Nat) = 5 := h
        omega
  · cases hs
theorem code_well {zs : List Int} {c c' : LC} (h : LWell c) (h2 : c.st = 2) (hs : codeCountS zs c = .inl c') : LWell c' := by
  unfold codeCountS at hs
  split at hs
  · injection hs with hs
    subst hs
    have hF : field (bnum zs) c.i 4 < 16 := field_lt _ _ _
    refine ⟨by show 3 ≤ 6; omega, fun _ => ?_, fun _ => ?_, fun _ h => ?_, fun _ => ?_, fun _ _ => h.len0 (by omega) (by omega), fun h => ?_, fun h => ?_, fun h => ?_⟩
    · dsimp only
      rw [upd, if_neg (by decide)]
      exact h.lit (by omega)
    · dsimp only
      rw [upd, if_neg (by decide)]
      exact h.dist (by omega)
    · have : 3 ≤ 2 := h
      omega
    · dsimp only
      rw [upd, upd, if_neg (by decide), if_pos rfl, h.zero (by omega) (by omega)]
      omega
    · have : 4 ≤ 3 := h
      omega
    · have : 4 ≤ 3 := h
      omega
    · have : (3 : Nat) = 5 := h
      omega
  · cases hs
end Go.Proofs.YtbddkkfakkedaaaGreatDoor
namespace Go.Proofs.YtbddkkfakkedaaaGreatDoor
open Go.RowKit
attribute [local go_sem ↓] Go.wp_at_zero Go.wp_at_succ
set_option linter.unusedVariables false

theorem LWell.ati {c : LC} (h : LWell c) (i : Nat) : LWell { c with i := i } := ⟨h.s6, h.lit, h.dist, h.zero, h.cod, h.len0, h.len, h.tb, h.rep⟩
theorem cl1_far (f : Nat → Int) (F j : Nat) (hk : (f 24).toNat < 19) (hj : j < 5 ∨ 24 < j) : cl1 f F j = f j := by
  have := ord19_le _ hk
  unfold cl1
  rw [upd, if_neg (by omega), upd, if_neg (by omega)]
theorem cl1_24 (f : Nat → Int) (F : Nat) : cl1 f F 24 = f 24 + 1 := by
  unfold cl1
  rw [upd, if_pos rfl]
theorem add_well {c c' : LC} {v : Int} {t : Nat} (h : LWell c) (h4 : 4 ≤ c.st) (hs : addS c v t = .inl c') : LWell c' := by
  unfold addS at hs
  split at hs
  · cases hs
  · split at hs
    · rename_i h1 h2
      injection hs with hs
      subst hs
      refine ⟨by show 4 ≤ 6; omega, fun _ => h.lit (by omega), fun _ => h.dist (by omega), fun _ h => ?_, fun h => ?_, fun _ h => ?_, fun _ _ => ?_, fun _ => h.tb h4, fun h => ?_⟩
      · have : 4 ≤ 2 := h
        omega
      · have : (4 : Nat) = 3 := h
        omega
      · have : 4 ≤ 3 := h
        omega
      · dsimp only
        rw [List.length_append, List.length_replicate]
        omega
      · have : (4 : Nat) = 5 := h
        omega
    · split at hs
      · injection hs with hs
        subst hs
        refine ⟨by show 6 ≤ 6; omega, fun _ => h.lit (by omega), fun _ => h.dist (by omega), fun _ h => ?_, fun h => ?_, fun _ h => ?_, fun _ h => ?_, fun _ => h.tb h4, fun h => ?_⟩
        · have : 6 ≤ 2 := h
          omega
        · have : (6 : Nat) = 3 := h
          omega
        · have : 6 ≤ 3 := h
          omega
        · have : 6 ≤ 5 := h
          omega
        · have : (6 : Nat) = 5 := h
          omega
      · cases hs
theorem codeLen_well {zs : List Int} {c c' : LC} (h : LWell c) (h3 : c.st = 3) (hs : codeLenS zs c = .inl c') : LWell c' := by
  obtain ⟨k1, k2, k3⟩ := h.cod h3
  have hk : (c.f 24).toNat < 19 := by omega
  unfold codeLenS at hs
  split at hs
  · split at hs
    · rename_i _ hlt
      injection hs with hs
      subst hs
      refine ⟨by show 3 ≤ 6; omega, fun _ => ?_, fun _ => ?_, fun _ h => ?_, fun _ => ?_, fun _ _ => h.len0 (by omega) (by omega), fun h => ?_, fun h => ?_, fun h => ?_⟩
      · dsimp only
        rw [cl1_far _ _ _ hk (by omega)]
        exact h.lit (by omega)
      · dsimp only
        rw [cl1_far _ _ _ hk (by omega)]
        exact h.dist (by omega)
      · have : 3 ≤ 2 := h
        omega
      · dsimp only
        rw [cl1_24, cl1_far _ _ _ hk (by omega)]
        omega
      · have : 4 ≤ 3 := h
        omega
      · have : 4 ≤ 3 := h
        omega
      · have : (3 : Nat) = 5 := h
        omega
    · split at hs
      · injection hs with hs
        subst hs
        have l0 := h.len0 (by omega) (by omega)
        have a1 := h.lit (by omega)
        have a2 := h.dist (by omega)
        refine ⟨by show 4 ≤ 6; omega, fun _ => ?_, fun _ => ?_, fun _ h => ?_, fun h => ?_, fun _ h => ?_, fun _ _ => ?_, fun _ => cl19_len _, fun h => ?_⟩
        · dsimp only
          rw [cl1_far _ _ _ hk (by omega)]
          exact a1
        · dsimp only
          rw [cl1_far _ _ _ hk (by omega)]
          exact a2
        · have : 4 ≤ 2 := h
          omega
        · have : (4 : Nat) = 3 := h
          omega
        · have : 4 ≤ 3 := h
          omega
        · dsimp only
          rw [cl1_far _ _ _ hk (by omega), cl1_far _ _ _ hk (by omega), l0]
          simp only [List.length_nil]
          omega
        · have : (4 : Nat) = 5 := h
          omega
      · cases hs
  · cases hs
theorem nextLen_well {zs : List Int} {c c' : LC} {n : Nat} (h : LWell c) (h4 : c.st = 4) (hs : nextLenS zs c n = .inl c') : LWell c' := by
  unfold nextLenS at hs
  split at hs
  · rename_i hk
    have hsy := nx3_sym hk
    rw [h.tb (by omega)] at hsy
    split at hs
    · exact add_well (h.ati _) (by show 4 ≤ c.st; omega) hs
    · split at hs
      · cases hs
      · rename_i g1 g2
        injection hs with hs
        subst hs
        refine ⟨by show 5 ≤ 6; omega, fun _ => ?_, fun _ => ?_, fun _ h => ?_, fun h => ?_, fun _ h => ?_, fun _ _ => ?_, fun _ => h.tb (by omega), fun _ => ?_⟩
        · dsimp only
          rw [upd, if_neg (by decide)]
          exact h.lit (by omega)
        · dsimp only
          rw [upd, if_neg (by decide)]
          exact h.dist (by omega)
        · have : 5 ≤ 2 := h
          omega
        · have : (5 : Nat) = 3 := h
          omega
        · have : 5 ≤ 3 := h
          omega
        · dsimp only
          rw [upd, upd, if_neg (by decide), if_neg (by decide)]
          exact h.len (by omega) (by omega)
        · dsimp only
          rw [upd, if_pos rfl]
          generalize (nx3 c.tb (field (bnum zs) c.i n) n).2.1 = s at *
          omega
  · split at hs
    · cases hs
    · cases hs
theorem repeat_well {zs : List Int} {c c' : LC} (h : LWell c) (h5 : c.st = 5) (hs : repeatS zs c = .inl c') : LWell c' := by
  unfold repeatS at hs
  split at hs
  · exact add_well (h.ati _) (by show 4 ≤ c.st; omega) hs
  · cases hs
end Go.Proofs.YtbddkkfakkedaaaGreatDoor
namespace Go.Proofs.YtbddkkfakkedaaaGreatDoor
open Go.RowKit
attribute [local go_sem ↓] Go.wp_at_zero Go.wp_at_succ
set_option linter.unusedVariables false

/-- A step of the machine for lengths. -/
def lstep0 (zs : List Int) (c : LC) : LC ⊕ (Int × LC) :=
  if c.st = 0 then litCountS zs c else if c.st = 1 then distCountS zs c else if c.st = 2 then codeCountS zs c else if c.st = 3 then codeLenS zs c else if c.st = 4 then nextLenS zs c (Nat.min (8 * zs.length - c.i) 15) else repeatS zs c
theorem lstep0_well {zs : List Int} {c c' : LC} (h : LWell c) (h5 : c.st ≤ 5) (hs : lstep0 zs c = .inl c') : LWell c' := by
  unfold lstep0 at hs
  split at hs
  · exact lit_well h hs
  · split at hs
    · rename_i h1
      exact dist_well h h1 hs
    · split at hs
      · rename_i h1
        exact code_well h h1 hs
      · split at hs
        · rename_i h1
          exact codeLen_well h h1 hs
        · split at hs
          · rename_i h1
            exact nextLen_well h h1 hs
          · exact repeat_well h (by omega) hs
/-- How far the machine is from its end. -/
def lmu (c : LC) : Nat :=
  if c.st = 0 then 4000 else if c.st = 1 then 3000 else if c.st = 2 then 2000 else if c.st = 3 then 1000 + (19 - c.f 24).toNat else if c.st = 4 then 2 * (400 - c.lens.length) + 1 else if c.st = 5 then 2 * (400 - c.lens.length) else 0
theorem lmu_le (c : LC) (h : LWell c) : (c.st = 3 → 1000 < lmu c ∧ lmu c < 2000) ∧ (4 ≤ c.st → lmu c ≤ 801) := by
  unfold lmu
  refine ⟨fun h3 => ?_, fun h4 => ?_⟩
  · have := h.cod h3
    rw [if_neg (by omega), if_neg (by omega), if_neg (by omega), if_pos h3]
    omega
  · rw [if_neg (by omega), if_neg (by omega), if_neg (by omega), if_neg (by omega)]
    split
    · omega
    · split <;> omega
theorem add_less {c c' : LC} {v : Int} {t : Nat} (h : LWell c) (h4 : 4 ≤ c.st) (h5 : c.st ≤ 5) (ht : 1 ≤ t) (ht2 : c.st = 5 → 2 ≤ t) (hs : addS c v t = .inl c') : lmu c' < lmu c := by
  have a1 := h.lit (by omega)
  have a2 := h.dist (by omega)
  have a3 := h.len h4 h5
  have hc : lmu c = if c.st = 4 then 2 * (400 - c.lens.length) + 1 else 2 * (400 - c.lens.length) := by
    unfold lmu
    rw [if_neg (by omega), if_neg (by omega), if_neg (by omega), if_neg (by omega)]
    split
    · rfl
    · rw [if_pos (by omega)]
  unfold addS at hs
  split at hs
  · cases hs
  · split at hs
    · injection hs with hs
      subst hs
      rw [hc]
      have : lmu { c with st := 4, lens := c.lens ++ List.replicate t v } = 2 * (400 - (c.lens.length + t)) + 1 := by simp [lmu]
      rw [this]
      split <;> omega
    · split at hs
      · injection hs with hs
        subst hs
        rw [hc]
        have : lmu { c with st := 6, lens := c.lens ++ List.replicate t v } = 0 := by simp [lmu]
        rw [this]
        split <;> omega
      · cases hs
end Go.Proofs.YtbddkkfakkedaaaGreatDoor
namespace Go.Proofs.YtbddkkfakkedaaaGreatDoor
open Go.RowKit
attribute [local go_sem ↓] Go.wp_at_zero Go.wp_at_succ
set_option linter.unusedVariables false

theorem lmu_at (c : LC) (s : Nat) (hs : c.st = s) : lmu c = if s = 0 then 4000 else if s = 1 then 3000 else if s = 2 then 2000 else if s = 3 then 1000 + (19 - c.f 24).toNat else if s = 4 then 2 * (400 - c.lens.length) + 1 else if s = 5 then 2 * (400 - c.lens.length) else 0 := by
  subst hs
  rfl
theorem lstep0_less {zs : List Int} {c c' : LC} (h : LWell c) (h5 : c.st ≤ 5) (hs : lstep0 zs c = .inl c') : lmu c' < lmu c := by
  have hw := lstep0_well h h5 hs
  unfold lstep0 at hs
  split at hs
  · rename_i h0
    rw [lmu_at c 0 h0]
    unfold litCountS at hs
    split at hs
    · split at hs
      · cases hs
      · injection hs with hs
        rw [lmu_at c' 1 (by rw [← hs])]
        show 3000 < 4000
        omega
    · cases hs
  · split at hs
    · rename_i h1
      rw [lmu_at c 1 h1]
      unfold distCountS at hs
      split at hs
      · split at hs
        · cases hs
        · injection hs with hs
          rw [lmu_at c' 2 (by rw [← hs])]
          show 2000 < 3000
          omega
      · cases hs
    · split at hs
      · rename_i h2
        rw [lmu_at c 2 h2]
        unfold codeCountS at hs
        split at hs
        · injection hs with hs
          have := (lmu_le c' hw).1 (by rw [← hs])
          show lmu c' < 2000
          omega
        · cases hs
      · split at hs
        · rename_i h3
          have hc := h.cod h3
          rw [lmu_at c 3 h3]
          show lmu c' < 1000 + (19 - c.f 24).toNat
          unfold codeLenS at hs
          split at hs
          · split at hs
            · injection hs with hs
              rw [lmu_at c' 3 (by rw [← hs])]
              have e : c'.f 24 = c.f 24 + 1 := by rw [← hs]; exact cl1_24 _ (field (bnum zs) c.i 3)
              rw [e]
              show 1000 + (19 - (c.f 24 + 1)).toNat < _
              omega
            · split at hs
              · injection hs with hs
                have := (lmu_le c' hw).2 (by rw [← hs]; exact Nat.le_refl 4)
                omega
              · cases hs
          · cases hs
        · split at hs
          · rename_i h4
            have a1 := h.lit (by omega)
            have a2 := h.dist (by omega)
            have a3 := h.len (by omega) (by omega)
            unfold nextLenS at hs
            split at hs
            · split at hs
              · have hl := add_less (h.ati (c.i + _)) (by show 4 ≤ c.st; omega) (by show c.st ≤ 5; omega) (Nat.le_refl 1) (fun h => by have : c.st = 5 := h; omega) hs
                exact hl
              · split at hs
                · cases hs
                · injection hs with hs
                  rw [lmu_at c 4 h4, lmu_at c' 5 (by rw [← hs])]
                  have e : c'.lens = c.lens := by rw [← hs]
                  rw [e]
                  show 2 * (400 - c.lens.length) < 2 * (400 - c.lens.length) + 1
                  omega
            · split at hs
              · cases hs
              · cases hs
          · have h5' : c.st = 5 := by omega
            unfold repeatS at hs
            split at hs
            · have ht : 3 ≤ repT c := by unfold repT; split <;> omega
              have hl := add_less (h.ati (c.i + repX c)) (by show 4 ≤ c.st; omega) (by show c.st ≤ 5; omega) (by omega) (fun _ => by omega) hs
              exact hl
            · cases hs
end Go.Proofs.YtbddkkfakkedaaaGreatDoor
namespace Go.Proofs.YtbddkkfakkedaaaGreatDoor
open Go.RowKit
attribute [local go_sem ↓] Go.wp_at_zero Go.wp_at_succ
set_option linter.unusedVariables false

/-- Every state answers as its step says. -/
theorem lstate_any (q p hB : Nat) (zs : List Int) (rdy : Value) (c : LC) (w : World) (hM : LMem q p hB zs rdy w c) (hW : LWell c) (h5 : c.st ≤ 5) (hz : Octets zs) (hzl : zs.length ≤ 65536) :
    Calls Tryz.prog (lfn c.st) #[.pointer (some ⟨q, 0, none⟩)] w fun e w' => LPost q p hB zs rdy (lstep0 zs c) e w w' := by
  have hc : c.st = 0 ∨ c.st = 1 ∨ c.st = 2 ∨ c.st = 3 ∨ c.st = 4 ∨ c.st = 5 := by omega
  rcases hc with h | h | h | h | h | h
  · have e : lstep0 zs c = litCountS zs c := by unfold lstep0; rw [if_pos h]
    rw [e, h]
    exact litCount_any q p hB zs rdy c w hM h hz hzl
  · have e : lstep0 zs c = distCountS zs c := by unfold lstep0; rw [if_neg (by omega), if_pos h]
    rw [e, h]
    exact distCount_any q p hB zs rdy c w hM h hz hzl
  · have e : lstep0 zs c = codeCountS zs c := by unfold lstep0; rw [if_neg (by omega), if_neg (by omega), if_pos h]
    rw [e, h]
    exact codeCount_any q p hB zs rdy c w hM h hz hzl
  · have e : lstep0 zs c = codeLenS zs c := by unfold lstep0; rw [if_neg (by omega), if_neg (by omega), if_neg (by omega), if_pos h]
    have hk := hW.cod h
    rw [e, h]
    exact codeLen_any q p hB zs rdy c (c.f 24).toNat w hM h (by omega) (by omega) hz hzl _ rfl
  · have e : lstep0 zs c = nextLenS zs c (Nat.min (8 * zs.length - c.i) 15) := by unfold lstep0; rw [if_neg (by omega), if_neg (by omega), if_neg (by omega), if_neg (by omega), if_pos h]
    rw [e, h]
    exact nextLen_any q p hB zs rdy c _ w hM (hW.inv (by omega) (by omega)) (add_ok q p hB zs rdy) hz hzl rfl _ rfl
  · have e : lstep0 zs c = repeatS zs c := by unfold lstep0; rw [if_neg (by omega), if_neg (by omega), if_neg (by omega), if_neg (by omega), if_neg (by omega)]
    have hI := hW.inv (by omega) (by omega)
    rcases hW.rep h with ⟨h16, h0⟩ | h17 | h18
    · rw [e, h]
      exact repeat_16 q p hB zs rdy c w hM hI (add_ok q p hB zs rdy) hz hzl h16 h0 _ rfl
    · rw [e, h]
      exact repeat_17 q p hB zs rdy c w hM hI (add_ok q p hB zs rdy) hz hzl h17 _ rfl
    · rw [e, h]
      exact repeat_18 q p hB zs rdy c w hM hI (add_ok q p hB zs rdy) hz hzl h18 _ rfl
theorem Trod.toBelow {q p hB B : Nat} {zs : List Int} {rdy : Value} {w w' : World} {c : LC} (h : Trod q p w w') (hM : LMem q p hB zs rdy w c) (hq : B ≤ q) (hp : B ≤ p) : Below B w w' := by
  obtain ⟨B', v, b1, b2, b3, b4, b5, b6, _⟩ := hM.own
  refine ⟨h.os, h.tape, h.output, h.size, fun k hk => h.block k (by have := hM.lt; omega) (by omega) (by omega) ?_⟩
  intro u hu e
  rw [b5] at hu
  cases hu
  have := own_base b6 k e
  omega
end Go.Proofs.YtbddkkfakkedaaaGreatDoor
namespace Go.Proofs.YtbddkkfakkedaaaGreatDoor
open Go.RowKit
attribute [local go_sem ↓] Go.wp_at_zero Go.wp_at_succ
set_option linter.unusedVariables false

abbrev LW := { c : LC // LWell c }
/-- A step, where the numbers are well. -/
def lstep (zs : List Int) (c : LW) : LW ⊕ (Int × LW) :=
  if h5 : c.1.st ≤ 5 then
    match hs : lstep0 zs c.1 with
    | .inl c' => .inl ⟨c', lstep0_well c.2 h5 hs⟩
    | .inr (k, cf) => .inr (k, ⟨{ cf with st := 0 }, LWell.none _ rfl⟩)
  else .inr (0, c)
def lnowO (q : Nat) (c : LW) : Option (Nat × Array Value) := if c.1.st ≤ 5 then some (lfn c.1.st, #[.pointer (some ⟨q, 0, none⟩)]) else none
theorem lnowO_v (q : Nat) (c : LW) : nowV (lnowO q) c = lnow q .nilFunc c.1.st := by
  unfold nowV lnowO lnow
  by_cases h : c.1.st ≤ 5
  · rw [if_pos h, if_pos h]
  · rw [if_neg h, if_neg h]
theorem lstep_inl {zs : List Int} {c c' : LW} (h5 : c.1.st ≤ 5) (h : lstep zs c = .inl c') : lstep0 zs c.1 = .inl c'.1 := by
  unfold lstep at h
  rw [dif_pos h5] at h
  split at h
  · rename_i c2 hs
    injection h with h
    rw [← h]
    exact hs
  · cases h
theorem lstep_inr {zs : List Int} {c cf : LW} {k : Int} (h5 : c.1.st ≤ 5) (h : lstep zs c = .inr (k, cf)) : ∃ c2, lstep0 zs c.1 = .inr (k, c2) ∧ cf.1 = { c2 with st := 0 } := by
  unfold lstep at h
  rw [dif_pos h5] at h
  split at h
  · cases h
  · rename_i k2 c2 hs
    injection h with h
    injection h with h1 h2
    subst h1
    exact ⟨c2, hs, by rw [← h2]⟩
theorem go_litCount (args : Array Value) (W : World) : Sem.run Tryz.prog (callFunc 126 args) W = .ok (.enter 126 args) W := by kernel_rfl
theorem go_distCount (args : Array Value) (W : World) : Sem.run Tryz.prog (callFunc 154 args) W = .ok (.enter 154 args) W := by kernel_rfl
theorem go_codeCount (args : Array Value) (W : World) : Sem.run Tryz.prog (callFunc 168 args) W = .ok (.enter 168 args) W := by kernel_rfl
theorem go_codeLen (args : Array Value) (W : World) : Sem.run Tryz.prog (callFunc 175 args) W = .ok (.enter 175 args) W := by kernel_rfl
theorem go_nextLen (args : Array Value) (W : World) : Sem.run Tryz.prog (callFunc 182 args) W = .ok (.enter 182 args) W := by kernel_rfl
theorem go_repeat (args : Array Value) (W : World) : Sem.run Tryz.prog (callFunc 187 args) W = .ok (.enter 187 args) W := by kernel_rfl
theorem lfn_go (s : Nat) (hs : s ≤ 5) (args : Array Value) (W : World) : Sem.run Tryz.prog (callFunc (lfn s) args) W = .ok (.enter (lfn s) args) W := by
  have h3 : s = 0 ∨ s = 1 ∨ s = 2 ∨ s = 3 ∨ s = 4 ∨ s = 5 := by omega
  rcases h3 with rfl | rfl | rfl | rfl | rfl | rfl
  · exact go_litCount args W
  · exact go_distCount args W
  · exact go_codeCount args W
  · exact go_codeLen args W
  · exact go_nextLen args W
  · exact go_repeat args W
/-- The machine for lengths, run from any state. -/
theorem lens_run (q p hB B : Nat) (zs : List Int) (hz : Octets zs) (hzl : zs.length ≤ 65536) (hBq : B ≤ q) (hBp : B ≤ p) (c0 : LW) (w : World) (hM : LMem q p hB zs .nilFunc w c0.1) (hn : w.cell? ⟨q, 1, none⟩ = some (lnow q .nilFunc c0.1.st)) :
    Calls Tryz.prog 25 #[.pointer (some ⟨q, 0, none⟩)] w fun e w' => RunPost (lnowO q) (lstep zs) (fun W (c : LW) => LMem q p hB zs .nilFunc W c.1) B c0 w e w' := by
  have hst : ∀ (c : LW) f caps, lnowO q c = some (f, caps) → c.1.st ≤ 5 ∧ f = lfn c.1.st ∧ caps = #[.pointer (some ⟨q, 0, none⟩)] := by
    intro c f caps h
    unfold lnowO at h
    split at h
    · rename_i h5
      injection h with h
      injection h with h1 h2
      exact ⟨h5, h1.symm, h2.symm⟩
    · cases h
  have hst2 : ∀ (c : LW), lnowO q c ≠ none → c.1.st ≤ 5 := by
    intro c h
    unfold lnowO at h
    split at h
    · assumption
    · exact absurd rfl h
  refine run_any q B (lnowO q) (fun W (c : LW) => LMem q p hB zs .nilFunc W c.1) (lstep zs) (fun c => lmu c.1) hBq ?_ ?_ ?_ ?_ ?_ ?_ c0 w hM (by rw [lnowO_v]; exact hn)
  · intro c f caps h args W
    obtain ⟨h5, rfl, _⟩ := hst c f caps h
    exact lfn_go _ h5 args W
  · intro W c h
    exact ⟨h.c1, h.free 1, h.g0⟩
  · intro W c v h
    exact h.next v
  · intro W W' c h hb
    exact h.below hb
  · intro W c f caps h hMc
    obtain ⟨h5, rfl, rfl⟩ := hst c f caps h
    refine Calls.mono (lstate_any q p hB zs .nilFunc c.1 W hMc c.2 h5 hz hzl) ?_
    rintro e W' ⟨hy, hno⟩
    refine ⟨fun c' hs => ?_, fun k cf hs => ?_⟩
    · obtain ⟨h1, h2, h3⟩ := hy c'.1 (lstep_inl h5 hs)
      exact ⟨by rw [lnowO_v]; exact h1, h2, h3.toBelow hMc hBq hBp⟩
    · obtain ⟨c2, h1, h2⟩ := lstep_inr h5 hs
      obtain ⟨v, h3, h4, h6⟩ := hno k c2 h1
      refine ⟨v, h3, ?_, h6.toBelow hMc hBq hBp⟩
      show LMem q p hB zs .nilFunc W' cf.1
      rw [h2]
      exact h4.at 0 (fun h => by omega) (fun h => by omega)
  · intro c c' h hs
    exact lstep0_less c.2 (hst2 c h) (lstep_inl (hst2 c h) hs)
end Go.Proofs.YtbddkkfakkedaaaGreatDoor
