import Derived.Test.YtbddkkfakkedaaaGreatDoorMBH
namespace Go.Proofs.YtbddkkfakkedaaaGreatDoor
open Go.RowKit
set_option linter.unusedVariables false

theorem cl19_set (f : Nat → Int) (F : Nat) (h : (f 24).toNat < 19) : cl19 (cl1 f F) = (cl19 f).set (ord19 (f 24).toNat) (F : Int) := by
  have ho := ord19_le _ h
  refine List.ext_getElem (by simp [cl19]) ?_
  intro j h1 h2
  simp [cl19] at h1
  rw [List.getElem_set]
  simp only [cl19, List.getElem_map, List.getElem_range, cl1, upd]
  rw [if_neg (by omega)]
  by_cases e : ord19 (f 24).toNat = j
  · rw [if_pos (by omega), if_pos e]
  · rw [if_neg (by omega), if_neg e]
theorem at_len {zs : List Int} {k : Int} {cf : LC} {r : RR} {L D : Int} {m j : Nat} {small : List Int} (h : At zs k cf 3 r (fun c => c.f 2 = L ∧ c.f 3 = D ∧ c.f 4 = (m : Int) ∧ c.f 24 = (j : Int) ∧ cl19 c.f = small)) (hj : j < m) (hm : m ≤ 19) :
    (j + 1 < m → At zs k cf 3 (tk zs r 3).1 (fun c => c.f 2 = L ∧ c.f 3 = D ∧ c.f 4 = (m : Int) ∧ c.f 24 = ((j + 1 : Nat) : Int) ∧ cl19 c.f = small.set (ord19 j) ((tk zs r 3).2 : Int))) ∧
    (j + 1 = m → At zs k cf 4 (bdP (tk zs r 3).1 (decide (hk (small.set (ord19 j) ((tk zs r 3).2 : Int)) ≠ 1))) (fun c => c.f 2 = L ∧ c.f 3 = D ∧ c.tb = small.set (ord19 j) ((tk zs r 3).2 : Int) ∧ c.lens = [])) := by
  by_cases h0 : r.2 = 0
  · obtain ⟨c, h1, h2, h3, h4, h6, h7, h8, h9, h10⟩ := h.yes h0
    have hst := h4.step (by omega)
    have hw := h3
    rw [lstep0_at zs c 3 h1, if_neg (by decide), if_neg (by decide), if_neg (by decide), if_pos rfl] at hst
    have hwell : ∀ c', codeLenS zs c = .inl c' → LWell c' := fun c' e => codeLen_well hw h1 e
    unfold codeLenS at hst hwell
    rw [h2, h8, h9] at hst hwell
    have h24 : (c.f 24).toNat = j := by omega
    have hcl := fun F => cl19_set c.f F (by omega)
    rw [h24, h10] at hcl
    simp only [hcl] at hst hwell
    have hf2 : ∀ F, cl1 c.f F 2 = L := fun F => by rw [cl1_far _ _ _ (by omega) (by omega)]; exact h6
    have hf3 : ∀ F, cl1 c.f F 3 = D := fun F => by rw [cl1_far _ _ _ (by omega) (by omega)]; exact h7
    have hf4 : ∀ F, cl1 c.f F 4 = (m : Int) := fun F => by rw [cl1_far _ _ _ (by omega) (by omega)]; exact h8
    have hf24 : ∀ F, cl1 c.f F 24 = ((j + 1 : Nat) : Int) := fun F => by rw [cl1_24, h9]; omega
    have hl0 := h3.len0 (by omega) (by omega)
    unfold tk
    rw [if_pos h0]
    by_cases hb : r.1 + 3 ≤ 8 * zs.length
    · rw [if_pos hb] at hst hwell ⊢
      dsimp only
      generalize field (bnum zs) r.1 3 = F at *
      refine ⟨fun hlt => ?_, fun heq => ?_⟩
      · rw [if_pos (by omega)] at hst hwell
        rcases hst with ⟨c', e, h5⟩ | e
        · have hw' := hwell c' e
          injection e with e
          subst e
          exact ⟨fun h => absurd rfl h, fun _ => ⟨_, rfl, rfl, hw', h5, hf2 F, hf3 F, hf4 F, hf24 F, hcl F⟩⟩
        · cases e
      · rw [if_neg (by omega)] at hst hwell
        by_cases hk1 : hk (small.set (ord19 j) (F : Int)) = 1
        · rw [if_pos hk1] at hst hwell
          have eb : bdP (r.1 + 3, 0) (decide (hk (small.set (ord19 j) (F : Int)) ≠ 1)) = (r.1 + 3, 0) := by
            unfold bdP
            rw [if_neg (fun x => (of_decide_eq_true x.2) hk1)]
          rw [eb]
          rcases hst with ⟨c', e, h5⟩ | e
          · have hw' := hwell c' e
            injection e with e
            subst e
            exact ⟨fun h => absurd rfl h, fun _ => ⟨_, rfl, rfl, hw', h5, hf2 F, hf3 F, rfl, hl0⟩⟩
          · cases e
        · rw [if_neg hk1] at hst
          have eb : bdP (r.1 + 3, 0) (decide (hk (small.set (ord19 j) (F : Int)) ≠ 1)) = (r.1 + 3, 3) := by
            unfold bdP
            rw [if_pos ⟨rfl, decide_eq_true hk1⟩]
          rw [eb]
          rcases hst with ⟨c', e, h5⟩ | e
          · cases e
          · injection e with e; injection e with e1 e2
            exact ⟨fun _ => ⟨e1, by omega⟩, fun h => by cases h⟩
    · rw [if_neg hb] at hst ⊢
      rcases hst with ⟨c', e, _⟩ | e
      · cases e
      · injection e with e; injection e with e1 e2
        have eb : ∀ p, bdP (r.1, 2) p = (r.1, 2) := fun p => bdP_no (show (2 : Int) ≠ 0 by decide)
        dsimp only
        rw [eb]
        exact ⟨fun _ => ⟨fun _ => ⟨e1, by omega⟩, fun h => by cases h⟩, fun _ => ⟨fun _ => ⟨e1, by omega⟩, fun h => by cases h⟩⟩
  · rw [tk_no h0]
    dsimp only
    rw [bdP_no h0]
    exact ⟨fun _ => ⟨fun _ => h.no h0, fun h => absurd h h0⟩, fun _ => ⟨fun _ => h.no h0, fun h => absurd h h0⟩⟩
/-- Where the model's loop over lengths stands. -/
structure In2 (zs : List Int) (k : Int) (cf : LC) (L D : Int) (tb : List Int) (r : RR) (all : List Int) : Prop where
  no : r.2 ≠ 0 → r.2 = k ∧ k ≠ 1
  le : r.2 = 0 → (all.length : Int) ≤ L + D
  lt : r.2 = 0 → (all.length : Int) < L + D → ∃ c, c.st = 4 ∧ c.i = r.1 ∧ LWell c ∧ LEnds zs c k cf ∧ c.f 2 = L ∧ c.f 3 = D ∧ c.tb = tb ∧ c.lens = all
  eq : r.2 = 0 → (all.length : Int) = L + D → (chk (all.take L.toNat) (all.drop L.toNat) → k = 1 ∧ cf.i = r.1 ∧ cf.lens = all ∧ cf.f 2 = L) ∧ (¬ chk (all.take L.toNat) (all.drop L.toNat) → k = 3)
theorem In2.bad {zs : List Int} {k : Int} {cf : LC} {L D : Int} {tb : List Int} {r : RR} {all : List Int} (h : r.2 ≠ 0) (hk : r.2 = k) (h1 : k ≠ 1) : In2 zs k cf L D tb r all :=
  ⟨fun _ => ⟨hk, h1⟩, fun e => absurd e h, fun e => absurd e h, fun e => absurd e h⟩
theorem In2.of_at {zs : List Int} {k : Int} {cf : LC} {L D : Int} {tb : List Int} {r : RR} (h : At zs k cf 4 r (fun c => c.f 2 = L ∧ c.f 3 = D ∧ c.tb = tb ∧ c.lens = [])) (hN : 0 < L + D) : In2 zs k cf L D tb r [] := by
  refine ⟨h.no, fun _ => by simp; omega, fun e _ => ?_, fun e he => ?_⟩
  · obtain ⟨c, h1, h2, h3, h4, h5, h6, h7, h8⟩ := h.yes e
    exact ⟨c, h1, h2, h3, h4, h5, h6, h7, h8⟩
  · simp at he; omega
theorem add_in2 {zs : List Int} {k : Int} {cf c1 : LC} {L D : Int} {tb all : List Int} {v : Int} {t : Nat} (hw : LWell c1) (h4 : 4 ≤ c1.st) (hst : (∃ c', addS c1 v t = .inl c' ∧ LEnds zs c' k cf) ∨ addS c1 v t = .inr (k, cf))
    (e2 : c1.f 2 = L) (e3 : c1.f 3 = D) (et : c1.tb = tb) (el : c1.lens = all) (hN0 : 0 ≤ L + D) : In2 zs k cf L D tb (bdP (c1.i, 0) (decide ((L + D).toNat < (all ++ List.replicate t v).length))) (all ++ List.replicate t v) := by
  have hwell : ∀ c', addS c1 v t = .inl c' → LWell c' := fun c' e => add_well hw h4 e
  unfold addS at hst hwell
  rw [e2, e3, el] at hst hwell
  have hl : (all ++ List.replicate t v).length = all.length + t := by simp
  by_cases g1 : (t : Int) > L + D - (all.length : Nat)
  · rw [if_pos g1] at hst
    have eb : bdP (c1.i, 0) (decide ((L + D).toNat < (all ++ List.replicate t v).length)) = (c1.i, 3) := by
      unfold bdP
      rw [if_pos ⟨rfl, decide_eq_true (by omega)⟩]
    rw [eb]
    rcases hst with ⟨c', e, _⟩ | e
    · cases e
    · injection e with e; injection e with e1 _
      exact In2.bad (by show (3 : Int) ≠ 0; decide) e1 (by omega)
  · rw [if_neg g1] at hst hwell
    have eb : bdP (c1.i, 0) (decide ((L + D).toNat < (all ++ List.replicate t v).length)) = (c1.i, 0) := by
      unfold bdP
      rw [if_neg (fun x => by have := of_decide_eq_true x.2; omega)]
    rw [eb]
    by_cases g2 : (t : Int) < L + D - (all.length : Nat)
    · rw [if_pos g2] at hst hwell
      rcases hst with ⟨c', e, h5⟩ | e
      · have hw' := hwell c' e
        injection e with e
        subst e
        exact ⟨fun h => absurd rfl h, fun _ => by omega, fun _ _ => ⟨{ c1 with st := 4, lens := all ++ List.replicate t v }, rfl, rfl, hw', h5, e2, e3, et, rfl⟩, fun _ h => by omega⟩
      · cases e
    · rw [if_neg g2] at hst hwell
      by_cases g3 : chk ((all ++ List.replicate t v).take L.toNat) ((all ++ List.replicate t v).drop L.toNat)
      · rw [if_pos g3] at hst
        rcases hst with ⟨c', e, h5⟩ | e
        · injection e with e
          subst e
          refine ⟨fun h => absurd rfl h, fun _ => by omega, fun _ h => by omega, fun _ _ => ⟨fun _ => ?_, fun h => absurd g3 h⟩⟩
          rcases h5.cut with ⟨_, rfl, rfl⟩ | ⟨h6, _⟩ | ⟨h6, _⟩
          · exact ⟨rfl, rfl, rfl, e2⟩
          · exact absurd h6 (by show ¬ (6 : Nat) ≤ 5; decide)
          · exact absurd h6 (by show ¬ (6 : Nat) ≤ 5; decide)
        · cases e
      · rw [if_neg g3] at hst
        rcases hst with ⟨c', e, h5⟩ | e
        · cases e
        · injection e with e; injection e with e1 _
          exact ⟨fun h => absurd rfl h, fun _ => by omega, fun _ h => by omega, fun _ _ => ⟨fun h => absurd h g3, fun _ => e1.symm⟩⟩
theorem rep_in2 {zs : List Int} {k : Int} {cf c : LC} {L D : Int} {tb all : List Int} (hw : LWell c) (h5 : c.st = 5) (he : LEnds zs c k cf) (e2 : c.f 2 = L) (e3 : c.f 3 = D) (et : c.tb = tb) (el : c.lens = all) (hN0 : 0 ≤ L + D) (x : Nat) (hx : c.f 27 = (x : Int)) (i : Nat) (hi : c.i = i) :
    In2 zs k cf L D tb (bdP (rpt zs (i, 0) all x).1 (decide ((L + D).toNat < (rpt zs (i, 0) all x).2.length))) (rpt zs (i, 0) all x).2 := by
  have hst := he.step (by omega)
  rw [lstep0_at zs c 5 h5, if_neg (by decide), if_neg (by decide), if_neg (by decide), if_neg (by decide), if_neg (by decide)] at hst
  unfold repeatS at hst
  subst hi
  have go : ∀ (n t0 : Nat) (v : Int), repX c = n → repT c = t0 → repV c = v → ∀ (r' : RR) (all' : List Int), r' = (tk zs (c.i, 0) n).1 → all' = ups (tk zs (c.i, 0) n).1 all v ((tk zs (c.i, 0) n).2 + t0) →
      In2 zs k cf L D tb (bdP r' (decide ((L + D).toNat < all'.length))) all' := by
    intro n t0 v en e0 ev r' all' er ea
    rw [en, e0, ev] at hst
    unfold tk at er ea
    rw [if_pos rfl] at er ea
    by_cases hb : c.i + n ≤ 8 * zs.length
    · rw [if_pos hb] at hst er ea
      dsimp only at er ea
      unfold ups at ea
      rw [if_pos rfl] at ea
      rw [er, ea, Nat.add_comm (field (bnum zs) c.i n) t0]
      exact add_in2 (c1 := { c with i := c.i + n }) (hw.ati _) (by show 4 ≤ c.st; omega) hst e2 e3 et el hN0
    · rw [if_neg hb] at hst er ea
      have e2 : bdP r' (decide ((L + D).toNat < all'.length)) = (c.i, 2) := by rw [er]; exact bdP_no (show (2 : Int) ≠ 0 by decide)
      rw [e2]
      rcases hst with ⟨c', e, _⟩ | e
      · cases e
      · injection e with e; injection e with e1 _
        exact In2.bad (by show (2 : Int) ≠ 0; decide) e1 (by omega)
  rcases hw.rep h5 with ⟨h16, h0⟩ | h17 | h18
  · have ex : x = 16 := by omega
    subst ex
    have hb : bdP (c.i, 0) (decide (all.length = 0)) = (c.i, 0) := by
      unfold bdP
      rw [if_neg (fun y => by have := of_decide_eq_true y.2; rw [el] at h0; omega)]
    refine go 2 3 (all.getD (all.length - 1) 0) ?_ ?_ ?_ _ _ ?_ ?_
    · unfold repX; rw [if_pos h16]
    · unfold repT; rw [if_neg (by omega)]
    · unfold repV; rw [if_pos h16, el]
    · unfold rpt; rw [if_pos rfl, hb]
    · unfold rpt; rw [if_pos rfl, hb]
  · have ex : x = 17 := by omega
    subst ex
    refine go 3 3 0 ?_ ?_ ?_ _ _ ?_ ?_
    · unfold repX; rw [if_neg (by omega), if_neg (by omega)]
    · unfold repT; rw [if_neg (by omega)]
    · unfold repV; rw [if_neg (by omega)]
    · unfold rpt; rw [if_neg (by decide), if_pos rfl]
    · unfold rpt; rw [if_neg (by decide), if_pos rfl]
  · have ex : x = 18 := by omega
    subst ex
    refine go 7 11 0 ?_ ?_ ?_ _ _ ?_ ?_
    · unfold repX; rw [if_neg (by omega), if_pos h18]
    · unfold repT; rw [if_pos h18]
    · unfold repV; rw [if_neg (by omega)]
    · unfold rpt; rw [if_neg (by decide), if_neg (by decide), if_pos rfl]
    · unfold rpt; rw [if_neg (by decide), if_neg (by decide), if_pos rfl]
theorem round_in2 {zs : List Int} {k : Int} {cf : LC} {L D : Int} {tb all : List Int} {r : RR} (h : In2 zs k cf L D tb r all) (h0 : r.2 = 0) (hlt : (all.length : Int) < L + D) : In2 zs k cf L D tb (rnd zs tb (L + D).toNat r all).1 (rnd zs tb (L + D).toNat r all).2 := by
  obtain ⟨c, h1, h2, h3, h4, e2, e3, et, el⟩ := h.lt h0 hlt
  obtain ⟨i, cl⟩ := r
  dsimp only at h0 h2
  subst h0 h2
  have hst := h4.step (by omega)
  rw [lstep0_at zs c 4 h1, if_neg (by decide), if_neg (by decide), if_neg (by decide), if_neg (by decide), if_pos rfl] at hst
  have hwell : ∀ c', nextLenS zs c (lkn zs c.i) = .inl c' → LWell c' := fun c' e => nextLen_well h3 h1 e
  have hlk : Nat.min (8 * zs.length - c.i) 15 = lkn zs c.i := rfl
  rw [hlk] at hst
  have hsy : sy zs (c.i, 0) tb = ((c.i + (nx3 c.tb (field (bnum zs) c.i (lkn zs c.i)) (lkn zs c.i)).2.2, if (nx3 c.tb (field (bnum zs) c.i (lkn zs c.i)) (lkn zs c.i)).1 = 2 then 2 else if (nx3 c.tb (field (bnum zs) c.i (lkn zs c.i)) (lkn zs c.i)).1 = 0 then 3 else 0), (nx3 c.tb (field (bnum zs) c.i (lkn zs c.i)) (lkn zs c.i)).2.1) := by
    unfold sy
    rw [if_pos rfl, et]
  have hkk := nx3_kinds c.tb (field (bnum zs) c.i (lkn zs c.i)) (lkn zs c.i)
  have hsm : (nx3 c.tb (field (bnum zs) c.i (lkn zs c.i)) (lkn zs c.i)).1 = 1 → (nx3 c.tb (field (bnum zs) c.i (lkn zs c.i)) (lkn zs c.i)).2.1 < 19 := fun e => by
    have := (nx3_sym e).1
    rw [h3.tb (by omega)] at this
    exact this
  unfold nextLenS at hst hwell
  unfold rnd
  rw [hsy]
  generalize nx3 c.tb (field (bnum zs) c.i (lkn zs c.i)) (lkn zs c.i) = t at *
  obtain ⟨tk', ts, tl⟩ := t
  dsimp only at *
  rcases hkk with rfl | rfl | rfl
  · rw [if_neg (by decide), if_neg (by decide)] at hst
    rw [show (if (0 : Nat) = 2 then (2 : Int) else if (0 : Nat) = 0 then 3 else 0) = 3 from rfl, if_neg (show ¬ (3 : Int) = 0 by decide)]
    rcases hst with ⟨c', e, _⟩ | e
    · cases e
    · injection e with e; injection e with e1 _
      exact In2.bad (by show (3 : Int) ≠ 0; decide) e1 (by omega)
  · rw [if_pos rfl] at hst hwell
    rw [show (if (1 : Nat) = 2 then (2 : Int) else if (1 : Nat) = 0 then 3 else 0) = 0 from rfl, if_pos rfl]
    have hs19 := hsm rfl
    by_cases g1 : ts < 16
    · rw [if_pos g1] at hst
      have er : rpt zs (c.i + tl, 0) all ts = ((c.i + tl, 0), all ++ List.replicate 1 (ts : Int)) := by
        unfold rpt ups
        rw [if_neg (by omega), if_neg (by omega), if_neg (by omega), if_pos rfl]
      rw [er]
      exact add_in2 (c1 := { c with i := c.i + tl }) (h3.ati _) (by show 4 ≤ c.st; omega) hst e2 e3 et el (by omega)
    · rw [if_neg g1] at hst hwell
      by_cases g2 : ts = 16 ∧ c.lens.length = 0
      · rw [if_pos g2] at hst
        rcases hst with ⟨c', e, _⟩ | e
        · cases e
        · injection e with e; injection e with e1 _
          obtain ⟨rfl, g3⟩ := g2
          have hb : bdP (c.i + tl, 0) (decide (all.length = 0)) = (c.i + tl, 3) := by
            unfold bdP
            rw [if_pos ⟨rfl, decide_eq_true (by rw [← el]; exact g3)⟩]
          have er : (rpt zs (c.i + tl, 0) all 16).1 = (c.i + tl, 3) := by
            unfold rpt
            rw [if_pos rfl, hb, tk_no (show (3 : Int) ≠ 0 by decide)]
          rw [er, bdP_no (show (3 : Int) ≠ 0 by decide)]
          exact In2.bad (by show (3 : Int) ≠ 0; decide) e1 (by omega)
      · rw [if_neg g2] at hst hwell
        rcases hst with ⟨c', e, h5⟩ | e
        · have hw' := hwell c' e
          injection e with e
          subst e
          exact rep_in2 hw' rfl h5 (by simpa [upd] using e2) (by simpa [upd] using e3) et el (by omega) ts (by simp [upd]) (c.i + tl) rfl
        · cases e
  · rw [if_neg (by decide), if_pos rfl] at hst
    rw [show (if (2 : Nat) = 2 then (2 : Int) else if (2 : Nat) = 0 then 3 else 0) = 2 from rfl, if_neg (show ¬ (2 : Int) = 0 by decide)]
    rcases hst with ⟨c', e, _⟩ | e
    · cases e
    · injection e with e; injection e with e1 _
      exact In2.bad (by show (2 : Int) ≠ 0; decide) e1 (by omega)
/-- A round brings the loop nearer to its end. -/
def mu2 (N : Nat) (r : RR) (all : List Int) : Nat := if r.2 = 0 ∧ all.length < N then N - all.length else 0
theorem mu2_less {zs tb : List Int} {N : Nat} {r : RR} {all : List Int} (h0 : r.2 = 0) (hlt : all.length < N) : mu2 N (rnd zs tb N r all).1 (rnd zs tb N r all).2 < mu2 N r all := by
  have hm : mu2 N r all = N - all.length := by unfold mu2; rw [if_pos ⟨h0, hlt⟩]
  rw [hm]
  unfold mu2
  split
  · rename_i hx
    have hup : ∀ (r' : RR) v t, r'.2 = 0 → (ups r' all v t).length = all.length + t := by
      intro r' v t e; unfold ups; rw [if_pos e]; simp
    have hb0 : ∀ (r' : RR) p, (bdP r' p).2 = 0 → r'.2 = 0 := by
      intro r' p e
      by_cases h : r'.2 = 0
      · exact h
      · rw [bdP_no h] at e; exact e
    have key : all.length < (rnd zs tb N r all).2.length := by
      obtain ⟨x1, x2⟩ := hx
      unfold rnd at x1 ⊢
      split
      · rename_i hs
        rw [if_pos hs] at x1
        have y := hb0 _ _ x1
        revert y
        unfold rpt
        split
        · intro y; dsimp only at y ⊢; rw [hup _ _ _ y]; omega
        · split
          · intro y; dsimp only at y ⊢; rw [hup _ _ _ y]; omega
          · split
            · intro y; dsimp only at y ⊢; rw [hup _ _ _ y]; omega
            · intro y; dsimp only at y ⊢; rw [hup _ _ _ y]; omega
      · rename_i hs
        rw [if_neg hs] at x1
        exact absurd x1 hs
    omega
  · omega
end Go.Proofs.YtbddkkfakkedaaaGreatDoor
namespace Go.Proofs.YtbddkkfakkedaaaGreatDoor
open Go.RowKit
set_option linter.unusedVariables false

theorem addS_six {c c' : LC} {v : Int} {t : Nat} (hs : addS c v t = .inl c') (h6 : c'.st = 6) : (c'.lens.length : Int) = c'.f 2 + c'.f 3 := by
  unfold addS at hs
  repeat' (split at hs)
  all_goals first | (cases hs; done) | (injection hs with hs; subst hs; dsimp only at h6 ⊢; first | (exfalso; omega) | (rw [List.length_append, List.length_replicate]; omega))
theorem lstep0_six {zs : List Int} {c c' : LC} (h5 : c.st ≤ 5) (hs : lstep0 zs c = .inl c') (h6 : c'.st = 6) : (c'.lens.length : Int) = c'.f 2 + c'.f 3 := by
  unfold lstep0 at hs
  split at hs
  · unfold litCountS at hs
    repeat' (split at hs)
    all_goals first | (cases hs; done) | (injection hs with hs; subst hs; cases h6)
  · split at hs
    · unfold distCountS at hs
      repeat' (split at hs)
      all_goals first | (cases hs; done) | (injection hs with hs; subst hs; cases h6)
    · split at hs
      · unfold codeCountS at hs
        repeat' (split at hs)
        all_goals first | (cases hs; done) | (injection hs with hs; subst hs; cases h6)
      · split at hs
        · unfold codeLenS at hs
          repeat' (split at hs)
          all_goals first | (cases hs; done) | (injection hs with hs; subst hs; cases h6)
        · split at hs
          · unfold nextLenS at hs
            repeat' (split at hs)
            all_goals first | exact addS_six hs h6 | (cases hs; done) | (injection hs with hs; subst hs; cases h6)
          · unfold repeatS at hs
            repeat' (split at hs)
            all_goals first | exact addS_six hs h6 | (cases hs; done) | (injection hs with hs; subst hs; cases h6)
/-- A machine that has ended well has as many lengths as it asked for. -/
theorem LEnds.full {zs : List Int} {c cf : LC} {k : Int} (h : LEnds zs c k cf) (hw : LWell c) (hc : c.st ≤ 5 ∨ (c.lens.length : Int) = c.f 2 + c.f 3) (hk : k = 1) : (cf.lens.length : Int) = cf.f 2 + cf.f 3 := by
  obtain ⟨n, hn⟩ := h
  induction n generalizing c with
  | zero => exact hn.elim
  | succ n ih =>
    rcases hn with ⟨h1, _, rfl⟩ | ⟨h1, hs⟩ | ⟨h1, c', hs, h3⟩
    · rcases hc with h | h
      · exact absurd h h1
      · exact h
    · exfalso
      rcases lstep0_no hs with h | h <;> omega
    · have hw' := lstep0_well hw h1 hs
      refine ih hw' ?_ h3
      by_cases h5 : c'.st ≤ 5
      · exact .inl h5
      · exact .inr (lstep0_six h1 hs (by have := hw'.s6; omega))
theorem LEnds.kinds {zs : List Int} {c cf : LC} {k : Int} (h : LEnds zs c k cf) : k = 1 ∨ k = 2 ∨ k = 3 := by
  obtain ⟨n, hn⟩ := h
  induction n generalizing c with
  | zero => exact hn.elim
  | succ n ih =>
    rcases hn with ⟨_, h, _⟩ | ⟨_, hs⟩ | ⟨_, c', _, h3⟩
    · exact .inl h
    · exact .inr (lstep0_no hs)
    · exact ih h3
theorem addS_i {c c' : LC} {v : Int} {t : Nat} (hs : addS c v t = .inl c') : c'.i = c.i := by
  unfold addS at hs
  repeat' (split at hs)
  all_goals first | (cases hs; done) | (injection hs with hs; subst hs; rfl)
theorem lstep0_i {zs : List Int} {c c' : LC} (h5 : c.st ≤ 5) (hi : c.i ≤ 8 * zs.length) (hs : lstep0 zs c = .inl c') : c'.i ≤ 8 * zs.length := by
  unfold lstep0 at hs
  split at hs
  · unfold litCountS at hs
    repeat' (split at hs)
    all_goals first | (cases hs; done) | (injection hs with hs; subst hs; dsimp only; omega)
  · split at hs
    · unfold distCountS at hs
      repeat' (split at hs)
      all_goals first | (cases hs; done) | (injection hs with hs; subst hs; dsimp only; omega)
    · split at hs
      · unfold codeCountS at hs
        repeat' (split at hs)
        all_goals first | (cases hs; done) | (injection hs with hs; subst hs; dsimp only; omega)
      · split at hs
        · unfold codeLenS at hs
          repeat' (split at hs)
          all_goals first | (cases hs; done) | (injection hs with hs; subst hs; dsimp only; omega)
        · split at hs
          · have hm : Nat.min (8 * zs.length - c.i) 15 ≤ 8 * zs.length - c.i := Nat.min_le_left _ _
            generalize Nat.min (8 * zs.length - c.i) 15 = n at *
            unfold nextLenS at hs
            split at hs
            · rename_i h1
              have h2 := (nx3_sym h1).2
              repeat' (split at hs)
              all_goals first | (have := addS_i hs; dsimp only at this; omega) | (cases hs; done) | (injection hs with hs; subst hs; dsimp only; omega)
            · split at hs <;> cases hs
          · unfold repeatS at hs
            repeat' (split at hs)
            all_goals first | (have := addS_i hs; dsimp only at this; omega) | (cases hs; done) | (injection hs with hs; subst hs; dsimp only; omega)
theorem LEnds.le {zs : List Int} {c cf : LC} (h : LEnds zs c 1 cf) (hw : LWell c) (hi : c.i ≤ 8 * zs.length) : cf.i ≤ 8 * zs.length := by
  obtain ⟨n, hn⟩ := h
  induction n generalizing c with
  | zero => exact hn.elim
  | succ n ih =>
    rcases hn with ⟨_, _, rfl⟩ | ⟨_, hs⟩ | ⟨h1, c', hs, h3⟩
    · exact hi
    · exfalso
      rcases lstep0_no hs with h | h <;> omega
    · exact ih (lstep0_well hw h1 hs) (lstep0_i h1 hi hs) h3
/-- Where ReadLens begins. -/
def lc0 (i : Nat) : LC := ⟨0, i, fun _ => 0, [], []⟩
theorem lc0_ends (zs : List Int) (i : Nat) : ∃ k cf, LEnds zs (lc0 i) k cf := LEnds.ex (lmu (lc0 i) + 1) (lc0 i) (LWell.none _ rfl) (Nat.lt_succ_self _)
theorem lc0_end {zs : List Int} {i : Nat} {cf : LC} (h : LEnds zs (lc0 i) 1 cf) : LWell cf ∧ cf.st = 6 ∧ (cf.lens.length : Int) = cf.f 2 + cf.f 3 := by
  have hw := LWell.none (lc0 i) rfl
  rcases h.good hw with ⟨_, h1, h2⟩ | h1
  · exact ⟨h1, h2, h.full hw (.inl (by show (0 : Nat) ≤ 5; omega)) rfl⟩
  · exact absurd rfl h1
/-- The places only go on. -/
def lRes (i : Nat) (k : Int) (cf : LC) : Int × List Int × List Int × Int := if k = 1 then (1, cf.lens.take (cf.f 2).toNat, cf.lens.drop (cf.f 2).toNat, (cf.i : Int) - (i : Int)) else (k, [], [], 0)
theorem lRes_len {zs : List Int} {i : Nat} {k : Int} {cf : LC} (h : LEnds zs (lc0 i) k cf) : (lRes i k cf).2.1.length ≤ 400 ∧ (lRes i k cf).2.2.1.length ≤ 400 := by
  unfold lRes
  by_cases hk : k = 1
  · subst hk
    rw [if_pos rfl]
    obtain ⟨h1, h2, h3⟩ := lc0_end h
    have h4 := h1.lit (by omega)
    have h5 := h1.dist (by omega)
    dsimp only
    rw [List.length_take, List.length_drop]
    constructor <;> omega
  · rw [if_neg hk]
    simp
end Go.Proofs.YtbddkkfakkedaaaGreatDoor
