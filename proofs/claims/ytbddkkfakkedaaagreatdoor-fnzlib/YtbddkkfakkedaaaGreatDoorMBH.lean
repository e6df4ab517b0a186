import Derived.Test.YtbddkkfakkedaaaGreatDoorMBG
namespace Go.Proofs.YtbddkkfakkedaaaGreatDoor
open Go.RowKit
set_option linter.unusedVariables false

/-- How the machine for lengths ends. -/
def LEndsN (zs : List Int) : Nat → LC → Int → LC → Prop
  | 0, _, _, _ => False
  | n + 1, c, k, cf => (¬ c.st ≤ 5 ∧ k = 1 ∧ cf = c) ∨ (c.st ≤ 5 ∧ lstep0 zs c = .inr (k, cf)) ∨ (c.st ≤ 5 ∧ ∃ c', lstep0 zs c = .inl c' ∧ LEndsN zs n c' k cf)
def LEnds (zs : List Int) (c : LC) (k : Int) (cf : LC) : Prop := ∃ n, LEndsN zs n c k cf
theorem LEnds.fin {zs : List Int} {c : LC} (h : ¬ c.st ≤ 5) : LEnds zs c 1 c := ⟨1, .inl ⟨h, rfl, rfl⟩⟩
theorem LEnds.bad {zs : List Int} {c cf : LC} {k : Int} (h : c.st ≤ 5) (hs : lstep0 zs c = .inr (k, cf)) : LEnds zs c k cf := ⟨1, .inr (.inl ⟨h, hs⟩)⟩
theorem LEnds.more {zs : List Int} {c c' cf : LC} {k : Int} (h : c.st ≤ 5) (hs : lstep0 zs c = .inl c') (h2 : LEnds zs c' k cf) : LEnds zs c k cf := by
  obtain ⟨n, hn⟩ := h2
  exact ⟨n + 1, .inr (.inr ⟨h, c', hs, hn⟩)⟩
theorem LEnds.cut {zs : List Int} {c cf : LC} {k : Int} (h : LEnds zs c k cf) : (¬ c.st ≤ 5 ∧ k = 1 ∧ cf = c) ∨ (c.st ≤ 5 ∧ lstep0 zs c = .inr (k, cf)) ∨ (c.st ≤ 5 ∧ ∃ c', lstep0 zs c = .inl c' ∧ LEnds zs c' k cf) := by
  obtain ⟨n, hn⟩ := h
  cases n with
  | zero => exact hn.elim
  | succ n =>
    rcases hn with h | h | ⟨h1, c', h2, h3⟩
    · exact .inl h
    · exact .inr (.inl h)
    · exact .inr (.inr ⟨h1, c', h2, n, h3⟩)
theorem LEnds.det {zs : List Int} {c cf cf' : LC} {k k' : Int} (h : LEnds zs c k cf) (h' : LEnds zs c k' cf') : k = k' ∧ cf = cf' := by
  obtain ⟨n, hn⟩ := h
  induction n generalizing c with
  | zero => exact hn.elim
  | succ n ih =>
    rcases hn with ⟨h1, rfl, rfl⟩ | ⟨h1, hs⟩ | ⟨h1, c', hs, h3⟩
    · rcases h'.cut with ⟨_, rfl, rfl⟩ | ⟨h2, _⟩ | ⟨h2, _⟩
      · exact ⟨rfl, rfl⟩
      · exact absurd h2 h1
      · exact absurd h2 h1
    · rcases h'.cut with ⟨h2, _⟩ | ⟨_, hs'⟩ | ⟨_, c', hs', _⟩
      · exact absurd h1 h2
      · rw [hs] at hs'; injection hs' with e; injection e with e1 e2; exact ⟨e1, e2⟩
      · rw [hs] at hs'; cases hs'
    · rcases h'.cut with ⟨h2, _⟩ | ⟨_, hs'⟩ | ⟨_, c2, hs', h4⟩
      · exact absurd h1 h2
      · rw [hs] at hs'; cases hs'
      · rw [hs] at hs'; injection hs' with e; subst e; exact ih h4 h3
theorem LEnds.ex {zs : List Int} : ∀ (n : Nat) (c : LC), LWell c → lmu c < n → ∃ k cf, LEnds zs c k cf := by
  intro n
  induction n with
  | zero => intro c _ h; omega
  | succ n ih =>
    intro c hw hn
    by_cases h5 : c.st ≤ 5
    · cases hs : lstep0 zs c with
      | inl c' =>
        obtain ⟨k, cf, h⟩ := ih c' (lstep0_well hw h5 hs) (by have := lstep0_less hw h5 hs; omega)
        exact ⟨k, cf, .more h5 hs h⟩
      | inr x => exact ⟨x.1, x.2, .bad h5 hs⟩
    · exact ⟨1, c, .fin h5⟩
theorem LEnds.of_ends {q : Nat} {zs : List Int} {c cf : LW} {k : Int} (h : Ends (lnowO q) (lstep zs) c k cf) : ∃ c2, LEnds zs c.1 k c2 ∧ ((∃ s, cf.1 = { c2 with st := s }) ∧ (cf.1.st = 6 → cf.1 = c2)) := by
  refine Ends.ind (X := fun c k cf => ∃ c2, LEnds zs c.1 k c2 ∧ ((∃ s, cf.1 = { c2 with st := s }) ∧ (cf.1.st = 6 → cf.1 = c2))) ?_ ?_ ?_ h
  · intro c h1
    refine ⟨c.1, .fin ?_, ⟨c.1.st, rfl⟩, fun _ => rfl⟩
    intro h5
    unfold lnowO at h1
    rw [if_pos h5] at h1
    cases h1
  · intro c cf k h1 hs
    have h5 : c.1.st ≤ 5 := by
      rcases Nat.lt_or_ge 5 c.1.st with h | h
      · exfalso; apply h1; unfold lnowO; rw [if_neg (by omega)]
      · exact h
    obtain ⟨c2, e1, e2⟩ := lstep_inr h5 hs
    exact ⟨c2, .bad h5 e1, ⟨0, e2⟩, fun h => by rw [e2] at h; cases h⟩
  · intro c c' cf k h1 hs ih
    have h5 : c.1.st ≤ 5 := by
      rcases Nat.lt_or_ge 5 c.1.st with h | h
      · exfalso; apply h1; unfold lnowO; rw [if_neg (by omega)]
      · exact h
    obtain ⟨c2, e1, e2⟩ := ih
    exact ⟨c2, .more h5 (lstep_inl h5 hs) e1, e2⟩
theorem addS_no {c cf : LC} {v k : Int} {t : Nat} (hs : addS c v t = .inr (k, cf)) : k = 2 ∨ k = 3 := by
  unfold addS at hs
  repeat' (split at hs)
  all_goals first | (cases hs; done) | (injection hs with e; injection e with e1 e2; omega)
theorem lstep0_no {zs : List Int} {c cf : LC} {k : Int} (hs : lstep0 zs c = .inr (k, cf)) : k = 2 ∨ k = 3 := by
  unfold lstep0 at hs
  split at hs
  · unfold litCountS at hs
    repeat' (split at hs)
    all_goals first | (cases hs; done) | (injection hs with e; injection e with e1 e2; omega)
  · split at hs
    · unfold distCountS at hs
      repeat' (split at hs)
      all_goals first | (cases hs; done) | (injection hs with e; injection e with e1 e2; omega)
    · split at hs
      · unfold codeCountS at hs
        repeat' (split at hs)
        all_goals first | (cases hs; done) | (injection hs with e; injection e with e1 e2; omega)
      · split at hs
        · unfold codeLenS at hs
          repeat' (split at hs)
          all_goals first | (cases hs; done) | (injection hs with e; injection e with e1 e2; omega)
        · split at hs
          · unfold nextLenS at hs
            repeat' (split at hs)
            all_goals first | exact addS_no hs | (cases hs; done) | (injection hs with e; injection e with e1 e2; omega)
          · unfold repeatS at hs
            repeat' (split at hs)
            all_goals first | exact addS_no hs | (cases hs; done) | (injection hs with e; injection e with e1 e2; omega)
/-- A machine that has ended well has read all its lengths. -/
theorem LEnds.good {zs : List Int} {c cf : LC} {k : Int} (h : LEnds zs c k cf) : LWell c → (k = 1 ∧ LWell cf ∧ cf.st = 6) ∨ k ≠ 1 := by
  obtain ⟨n, hn⟩ := h
  induction n generalizing c with
  | zero => exact hn.elim
  | succ n ih =>
    intro hw
    rcases hn with ⟨h1, rfl, rfl⟩ | ⟨h1, hs⟩ | ⟨h1, c', hs, h3⟩
    · have := hw.s6
      exact .inl ⟨rfl, hw, by omega⟩
    · right
      intro hk
      rcases lstep0_no hs with h | h <;> omega
    · exact ih h3 (lstep0_well hw h1 hs)

/-! ### THE MODEL's READING, AS PLAIN FUNCTIONS -/
/-- A place in bits, and a number. -/
abbrev RR := Nat × Int
def tk (zs : List Int) (r : RR) (n : Nat) : RR × Nat := if r.2 = 0 then (if r.1 + n ≤ 8 * zs.length then ((r.1 + n, 0), field (bnum zs) r.1 n) else ((r.1, 2), 0)) else (r, 0)
def bdP (r : RR) (p : Bool) : RR := if r.2 = 0 ∧ p = true then (r.1, 3) else r
/-- How many bits are looked at for a symbol. -/
def lkn (zs : List Int) (i : Nat) : Nat := Nat.min (8 * zs.length - i) 15
def sy (zs : List Int) (r : RR) (tb : List Int) : RR × Nat :=
  if r.2 = 0 then ((r.1 + (nx3 tb (field (bnum zs) r.1 (lkn zs r.1)) (lkn zs r.1)).2.2, if (nx3 tb (field (bnum zs) r.1 (lkn zs r.1)) (lkn zs r.1)).1 = 2 then 2 else if (nx3 tb (field (bnum zs) r.1 (lkn zs r.1)) (lkn zs r.1)).1 = 0 then 3 else 0), (nx3 tb (field (bnum zs) r.1 (lkn zs r.1)) (lkn zs r.1)).2.1)
  else (r, 0)
def ups (r : RR) (all : List Int) (v : Int) (t : Nat) : List Int := if r.2 = 0 then all ++ List.replicate t v else all
def rpt (zs : List Int) (r : RR) (all : List Int) (x : Nat) : RR × List Int :=
  if x = 16 then ((tk zs (bdP r (decide (all.length = 0))) 2).1, ups (tk zs (bdP r (decide (all.length = 0))) 2).1 all (all.getD (all.length - 1) 0) ((tk zs (bdP r (decide (all.length = 0))) 2).2 + 3))
  else if x = 17 then ((tk zs r 3).1, ups (tk zs r 3).1 all 0 ((tk zs r 3).2 + 3))
  else if x = 18 then ((tk zs r 7).1, ups (tk zs r 7).1 all 0 ((tk zs r 7).2 + 11))
  else (r, ups r all (x : Nat) 1)
/-- A round of the model's loop over lengths. -/
def rnd (zs tb : List Int) (N : Nat) (r : RR) (all : List Int) : RR × List Int :=
  if (sy zs r tb).1.2 = 0 then (bdP (rpt zs (sy zs r tb).1 all (sy zs r tb).2).1 (decide (N < (rpt zs (sy zs r tb).1 all (sy zs r tb).2).2.length)), (rpt zs (sy zs r tb).1 all (sy zs r tb).2).2)
  else ((sy zs r tb).1, all)
/-- Where the reading stands against the machine that ends with k at cf. -/
structure At (zs : List Int) (k : Int) (cf : LC) (s : Nat) (r : RR) (P : LC → Prop) : Prop where
  no : r.2 ≠ 0 → r.2 = k ∧ k ≠ 1
  yes : r.2 = 0 → ∃ c, c.st = s ∧ c.i = r.1 ∧ LWell c ∧ LEnds zs c k cf ∧ P c
theorem tk_no {zs : List Int} {r : RR} {n : Nat} (h : r.2 ≠ 0) : tk zs r n = (r, 0) := by unfold tk; rw [if_neg h]
theorem bdP_no {r : RR} {p : Bool} (h : r.2 ≠ 0) : bdP r p = r := by unfold bdP; rw [if_neg (fun x => h x.1)]
theorem LEnds.step {zs : List Int} {c cf : LC} {k : Int} (h : LEnds zs c k cf) (h5 : c.st ≤ 5) : (∃ c', lstep0 zs c = .inl c' ∧ LEnds zs c' k cf) ∨ lstep0 zs c = .inr (k, cf) := by
  rcases h.cut with ⟨h1, _⟩ | ⟨_, hs⟩ | ⟨_, c', hs, h2⟩
  · exact absurd h5 h1
  · exact .inr hs
  · exact .inl ⟨c', hs, h2⟩
theorem lstep0_at (zs : List Int) (c : LC) (s : Nat) (hs : c.st = s) : lstep0 zs c = if s = 0 then litCountS zs c else if s = 1 then distCountS zs c else if s = 2 then codeCountS zs c else if s = 3 then codeLenS zs c else if s = 4 then nextLenS zs c (Nat.min (8 * zs.length - c.i) 15) else repeatS zs c := by
  subst hs; rfl
/-- The numbers of the lengths of the code of lengths are none yet. -/
def cl0 (c : LC) : Prop := ∀ j, 5 ≤ j → j ≤ 23 → c.f j = 0
theorem at_lit {zs : List Int} {k : Int} {cf : LC} {r : RR} {P : LC → Prop} (h : At zs k cf 0 r P) :
    At zs k cf 1 (bdP (tk zs r 5).1 (decide (286 < ((tk zs r 5).2 : Int) + 257))) (fun c => c.f 2 = ((tk zs r 5).2 : Int) + 257 ∧ cl0 c) := by
  by_cases h0 : r.2 = 0
  · obtain ⟨c, h1, h2, h3, h4, _⟩ := h.yes h0
    have hst := h4.step (by omega)
    rw [lstep0_at zs c 0 h1, if_pos rfl] at hst
    unfold litCountS at hst
    rw [h2] at hst
    unfold tk
    rw [if_pos h0]
    by_cases hb : r.1 + 5 ≤ 8 * zs.length
    · rw [if_pos hb] at hst ⊢
      by_cases hg : ((field (bnum zs) r.1 5 : Nat) : Int) + 257 > 286
      · rw [if_pos hg] at hst
        rcases hst with ⟨c', e, _⟩ | e
        · cases e
        · injection e with e; injection e with e1 e2
          refine ⟨fun _ => ?_, fun h => ?_⟩
          · unfold bdP
            rw [if_pos ⟨rfl, decide_eq_true hg⟩]
            exact ⟨e1, by omega⟩
          · unfold bdP at h
            rw [if_pos ⟨rfl, decide_eq_true hg⟩] at h
            cases h
      · rw [if_neg hg] at hst
        have eb : bdP (r.1 + 5, 0) (decide (286 < ((field (bnum zs) r.1 5 : Nat) : Int) + 257)) = (r.1 + 5, 0) := by
          unfold bdP
          rw [if_neg (fun x => hg (of_decide_eq_true x.2))]
        dsimp only
        rw [eb]
        rcases hst with ⟨c', e, h5⟩ | e
        · injection e with e
          subst e
          refine ⟨fun h => absurd rfl h, fun _ => ⟨_, rfl, rfl, ?_, h5, ?_, ?_⟩⟩
          · refine lit_well (zs := zs) h3 ?_
            unfold litCountS
            rw [h2, if_pos hb, if_neg hg]
          · simp [upd, clr]
          · intro j j1 j2
            simp only [upd, clr]
            rw [if_neg (by omega), if_pos ⟨j1, j2⟩]
        · cases e
    · rw [if_neg hb] at hst ⊢
      rcases hst with ⟨c', e, _⟩ | e
      · cases e
      · injection e with e; injection e with e1 e2
        have eb : ∀ p, bdP (r.1, 2) p = (r.1, 2) := fun p => bdP_no (show (2 : Int) ≠ 0 by decide)
        dsimp only
        rw [eb]
        exact ⟨fun _ => ⟨e1, by omega⟩, fun h => by cases h⟩
  · rw [tk_no h0, bdP_no h0]
    exact ⟨fun _ => h.no h0, fun h => absurd h h0⟩
theorem at_dist {zs : List Int} {k : Int} {cf : LC} {r : RR} {L : Int} (h : At zs k cf 1 r (fun c => c.f 2 = L ∧ cl0 c)) :
    At zs k cf 2 (bdP (tk zs r 5).1 (decide (30 < ((tk zs r 5).2 : Int) + 1))) (fun c => c.f 2 = L ∧ c.f 3 = ((tk zs r 5).2 : Int) + 1 ∧ cl0 c) := by
  by_cases h0 : r.2 = 0
  · obtain ⟨c, h1, h2, h3, h4, h6, h7⟩ := h.yes h0
    have hst := h4.step (by omega)
    rw [lstep0_at zs c 1 h1, if_neg (by decide), if_pos rfl] at hst
    unfold distCountS at hst
    rw [h2] at hst
    unfold tk
    rw [if_pos h0]
    by_cases hb : r.1 + 5 ≤ 8 * zs.length
    · rw [if_pos hb] at hst ⊢
      by_cases hg : ((field (bnum zs) r.1 5 : Nat) : Int) + 1 > 30
      · rw [if_pos hg] at hst
        rcases hst with ⟨c', e, _⟩ | e
        · cases e
        · injection e with e; injection e with e1 e2
          refine ⟨fun _ => ?_, fun h => ?_⟩
          · unfold bdP
            rw [if_pos ⟨rfl, decide_eq_true hg⟩]
            exact ⟨e1, by omega⟩
          · unfold bdP at h
            rw [if_pos ⟨rfl, decide_eq_true hg⟩] at h
            cases h
      · rw [if_neg hg] at hst
        have eb : bdP (r.1 + 5, 0) (decide (30 < ((field (bnum zs) r.1 5 : Nat) : Int) + 1)) = (r.1 + 5, 0) := by
          unfold bdP
          rw [if_neg (fun x => hg (of_decide_eq_true x.2))]
        dsimp only
        rw [eb]
        rcases hst with ⟨c', e, h5⟩ | e
        · injection e with e
          subst e
          refine ⟨fun h => absurd rfl h, fun _ => ⟨_, rfl, rfl, ?_, h5, ?_, ?_, ?_⟩⟩
          · refine dist_well (zs := zs) h3 h1 ?_
            unfold distCountS
            rw [h2, if_pos hb, if_neg hg]
          · simpa [upd] using h6
          · simp [upd]
          · intro j j1 j2
            simp only [upd]
            rw [if_neg (by omega)]
            exact h7 j j1 j2
        · cases e
    · rw [if_neg hb] at hst ⊢
      rcases hst with ⟨c', e, _⟩ | e
      · cases e
      · injection e with e; injection e with e1 e2
        have eb : ∀ p, bdP (r.1, 2) p = (r.1, 2) := fun p => bdP_no (show (2 : Int) ≠ 0 by decide)
        dsimp only
        rw [eb]
        exact ⟨fun _ => ⟨e1, by omega⟩, fun h => by cases h⟩
  · rw [tk_no h0, bdP_no h0]
    exact ⟨fun _ => h.no h0, fun h => absurd h h0⟩
theorem cl19_zero {c : LC} (h : cl0 c) : cl19 c.f = List.replicate 19 0 := by
  refine List.ext_getElem (by simp [cl19]) ?_
  intro j h1 h2
  have h3 : j < 19 := by simpa [cl19] using h1
  simp only [cl19, List.getElem_map, List.getElem_range, List.getElem_replicate]
  exact h (5 + j) (by omega) (by omega)
theorem at_code {zs : List Int} {k : Int} {cf : LC} {r : RR} {L D : Int} (h : At zs k cf 2 r (fun c => c.f 2 = L ∧ c.f 3 = D ∧ cl0 c)) :
    At zs k cf 3 (tk zs r 4).1 (fun c => c.f 2 = L ∧ c.f 3 = D ∧ c.f 4 = ((tk zs r 4).2 : Int) + 4 ∧ c.f 24 = 0 ∧ cl19 c.f = List.replicate 19 0) := by
  by_cases h0 : r.2 = 0
  · obtain ⟨c, h1, h2, h3, h4, h6, h7, h8⟩ := h.yes h0
    have hst := h4.step (by omega)
    rw [lstep0_at zs c 2 h1, if_neg (by decide), if_neg (by decide), if_pos rfl] at hst
    unfold codeCountS at hst
    rw [h2] at hst
    unfold tk
    rw [if_pos h0]
    by_cases hb : r.1 + 4 ≤ 8 * zs.length
    · rw [if_pos hb] at hst ⊢
      rcases hst with ⟨c', e, h5⟩ | e
      · injection e with e
        subst e
        refine ⟨fun h => absurd rfl h, fun _ => ⟨_, rfl, rfl, ?_, h5, ?_, ?_, ?_, ?_, ?_⟩⟩
        · refine code_well (zs := zs) h3 h1 ?_
          unfold codeCountS
          rw [h2, if_pos hb]
        · simpa [upd] using h6
        · simpa [upd] using h7
        · simp [upd]
        · simpa [upd] using h3.zero (by omega) (by omega)
        · refine cl19_zero ?_
          intro j j1 j2
          simp only [upd]
          rw [if_neg (by omega)]
          exact h8 j j1 j2
      · cases e
    · rw [if_neg hb] at hst ⊢
      rcases hst with ⟨c', e, _⟩ | e
      · cases e
      · injection e with e; injection e with e1 e2
        exact ⟨fun _ => ⟨e1, by omega⟩, fun h => by cases h⟩
  · rw [tk_no h0]
    exact ⟨fun _ => h.no h0, fun h => absurd h h0⟩
end Go.Proofs.YtbddkkfakkedaaaGreatDoor
