import Derived.Test.YtlfabilmilkboaaGreatDoorMBP
namespace Go.Proofs.YtlfabilmilkboaaGreatDoor
open Go.RowKit
set_option linter.unusedVariables false

theorem addS_chk {c c' : LC} {v : Int} {t : Nat} (hs : addS c v t = .inl c') (h6 : c'.st = 6) : chk (c'.lens.take (c'.f 2).toNat) (c'.lens.drop (c'.f 2).toNat) := by
  unfold addS at hs
  split at hs
  · cases hs
  · split at hs
    · injection hs with e; subst e; cases h6
    · split at hs
      · rename_i hc
        injection hs with e; subst e
        exact hc
      · cases hs
theorem lstep0_chk {zs : List Int} {c c' : LC} (h5 : c.st ≤ 5) (hs : lstep0 zs c = .inl c') (h6 : c'.st = 6) : chk (c'.lens.take (c'.f 2).toNat) (c'.lens.drop (c'.f 2).toNat) := by
  unfold lstep0 at hs
  repeat' (split at hs)
  all_goals (try unfold litCountS at hs)
  all_goals (try unfold distCountS at hs)
  all_goals (try unfold codeCountS at hs)
  all_goals (try unfold codeLenS at hs)
  all_goals (try unfold nextLenS at hs)
  all_goals (try unfold repeatS at hs)
  all_goals repeat' (split at hs)
  all_goals first | (exact addS_chk hs h6) | (cases hs; done) | (injection hs with e; subst e; cases h6)
theorem LEnds.chk {zs : List Int} {c cf : LC} {k : Int} (h : LEnds zs c k cf) (hk : k = 1) (hw : LWell c) (h5 : c.st ≤ 5) : chk (cf.lens.take (cf.f 2).toNat) (cf.lens.drop (cf.f 2).toNat) := by
  obtain ⟨n, hn⟩ := h
  induction n generalizing c with
  | zero => exact hn.elim
  | succ n ih =>
    rcases hn with ⟨h1, _⟩ | ⟨h1, hs⟩ | ⟨h1, c', hs, h3⟩
    · exact absurd h5 h1
    · rcases lstep0_no hs with h | h <;> omega
    · have hw' := lstep0_well hw h1 hs
      by_cases h6 : c'.st ≤ 5
      · exact ih hw' h6 h3
      · have := hw'.s6
        have hL : LEnds zs c' k cf := ⟨n, h3⟩
        rcases hL.cut with ⟨_, _, e⟩ | ⟨h7, _⟩ | ⟨h7, _⟩
        · rw [e]
          exact lstep0_chk h1 hs (by omega)
        · exact absurd h7 h6
        · exact absurd h7 h6
theorem hk_okC2 {zs : List Int} (h : hk zs = 1 ∨ hk zs = 4 ∨ hk zs = 5) : okC zs = true := by
  have ho : okB zs = true := by
    cases hb : okB zs with
    | true => rfl
    | false =>
      unfold hk at h
      rw [hb, if_neg (by decide)] at h
      exact absurd h (by decide)
  unfold okC
  rw [ho, Bool.true_and]
  refine decide_eq_true ?_
  omega
/-- The inflater's reading of lengths is the machine's for lengths. -/
theorem lens_bridge {s : Nat} {zs : List Int} {k k2 : Int} {cf : IC} {cf2 : LC} (hzl : zs.length ≤ 65536) : ∀ (n : Nat) (c : IC), LEndsN zs n c.lc k2 cf2 → c.lc.st = c.st → c.st ≤ 6 → IWell zs c → IEnds s zs c k cf →
    (k2 = 1 → IEnds s zs { c with st := cf2.st, lc := cf2 } k cf ∧ IWell zs { c with st := cf2.st, lc := cf2 }) ∧ (k2 ≠ 1 → k = k2 ∧ cf.out = c.out) := by
  intro n
  induction n with
  | zero => intro c hn; exact hn.elim
  | succ n ih =>
    intro c hn hst h6 hW hE
    rcases hn with ⟨h1, rfl, rfl⟩ | ⟨h1, hs⟩ | ⟨h1, l, hs, h3⟩
    · refine ⟨fun _ => ?_, fun e => absurd rfl e⟩
      rw [hst]
      exact ⟨hE, hW⟩
    · have hs2 : istep0 s zs c = .inr (k2, { c with st := cf2.st, lc := cf2 }) := by
        unfold istep0
        rw [if_pos (by omega), hs]
      obtain ⟨e1, e2⟩ := hE.stop (by omega) hs2
      refine ⟨fun e => ?_, fun _ => ⟨e1, by rw [e2]⟩⟩
      rcases lstep0_no hs with h | h <;> omega
    · have hs2 : istep0 s zs c = .inl { c with st := l.st, lc := l } := by
        unfold istep0
        rw [if_pos (by omega), hs]
      have hW2 := (istep0_ok hW (by omega) hzl hs2).1
      have hl6 : l.st ≤ 6 := (lstep0_well (hW.lens h6).1 h1 hs).s6
      exact ih { c with st := l.st, lc := l } h3 rfl hl6 hW2 (hE.step (by omega) hs2)
/-- The codes in use. -/
def InUse (ls ds : List Int) (b : Bool) (c : IC) : Prop := c.ul = ls ∧ c.ud = ds ∧ c.last = b
theorem at_fixed {s : Nat} {zs : List Int} {D : Nat} {k : Int} {cf : IC} {b : Bool} {i : Nat} {all : List Int} (hzl : zs.length ≤ 65536) (h : IAt s zs D k cf 11 (fun c => c.last = b) (i, 0) all) : IAt s zs D k cf 12 (InUse F288 F32 b) (i, 0) all :=
  h.go hzl rfl (by omega) i all (fun c h1 h2 h3 h4 h5 h6 => ⟨{ c with st := 12, fx := true, ul := F288, ud := F32 }, by rw [istep0_11 h1]; rfl, rfl, h2, h4, h5, rfl, rfl, h6⟩) h.len.1
theorem at_dyn {s : Nat} {zs : List Int} {D : Nat} {k : Int} {cf : IC} {b : Bool} {i : Nat} {all : List Int} (hzl : zs.length ≤ 65536) (h : IAt s zs D k cf 0 (fun c => c.last = b) (i, 0) all) :
    ∃ c0 k2 cf2, c0.st = 0 ∧ c0.i = i ∧ LEnds zs c0 k2 cf2 ∧ (k2 = 1 → okC (cf2.lens.take (cf2.f 2).toNat) = true ∧ okC (cf2.lens.drop (cf2.f 2).toNat) = true ∧ (cf2.lens.take (cf2.f 2).toNat).length ≤ 320 ∧ (cf2.lens.drop (cf2.f 2).toNat).length ≤ 320 ∧ IAt s zs D k cf 12 (InUse (cf2.lens.take (cf2.f 2).toNat) (cf2.lens.drop (cf2.f 2).toNat) b) (cf2.i, 0) all) ∧ (k2 ≠ 1 → k2 ≠ 0 ∧ ∀ i', i' ≤ 8 * zs.length → IAt s zs D k cf 12 (InUse (cf2.lens.take (cf2.f 2).toNat) (cf2.lens.drop (cf2.f 2).toNat) b) (i', k2) all) := by
  obtain ⟨c, h1, h2, h3, h4, h5, h6, h7⟩ := h.yes rfl
  obtain ⟨hLW, hls⟩ := h3.lens (by omega)
  obtain ⟨k2, cf2, hL⟩ := LEnds.ex (zs := zs) (lmu c.lc + 1) c.lc hLW (Nat.lt_succ_self _)
  refine ⟨c.lc, k2, cf2, by omega, h2, hL, ?_⟩
  obtain ⟨n, hn⟩ := hL
  have hL : LEnds zs c.lc k2 cf2 := ⟨n, hn⟩
  obtain ⟨b1, b2⟩ := lens_bridge hzl n c hn hls (by omega) h3 h6
  have hkk := hL.kinds
  refine ⟨fun e => ?_, fun e => ?_⟩
  · obtain ⟨g1, g2⟩ := b1 e
    have hck := hL.chk e hLW (by omega)
    rcases hL.good hLW with ⟨_, hW6, h6'⟩ | hne
    · have hl1 := hW6.lit (by omega)
      have hl2 := hW6.dist (by omega)
      have hful := g2.full h6'
      dsimp only at hful
      have hA : IAt s zs D k cf 6 (fun c' => c'.lc = cf2 ∧ c'.last = b) (cf2.i, 0) all :=
        ⟨h.len, g2.le, fun e => absurd rfl e, fun _ => ⟨{ c with st := cf2.st, lc := cf2 }, h6', rfl, g2, h4, h5, g1, rfl, h7⟩⟩
      refine ⟨hk_okC2 (by rcases hck.2.1 with h | h; exact .inl h; exact .inr (.inl h)), hk_okC2 hck.2.2, by rw [List.length_take]; omega, by rw [List.length_drop]; omega, ?_⟩
      refine hA.go hzl rfl (by omega) cf2.i all (fun c h1 h2 h3 h4 h5 h6 => ⟨{ c with st := 12, ul := c.lc.lens.take (c.lc.f 2).toNat, ud := c.lc.lens.drop (c.lc.f 2).toNat, lc := { c.lc with st := 0 } }, by rw [istep0_6 h1]; rfl, rfl, h2, h4, h5, ?_, ?_, h6.2⟩) h.len.1
      · rw [h6.1]
      · rw [h6.1]
    · exact absurd e hne
  · obtain ⟨g1, g2⟩ := b2 e
    refine ⟨by omega, fun i' hi' => ⟨h.len, hi', fun _ => ⟨g1.symm, by omega, by rw [g2, h4]⟩, fun e => ?_⟩⟩
    have : k2 = 0 := e
    omega
theorem nx3_kind (ls : List Int) (b n : Nat) : (nx3 ls b n).1 = 0 ∨ (nx3 ls b n).1 = 1 ∨ (nx3 ls b n).1 = 2 := by
  unfold nx3
  repeat' split
  all_goals simp
theorem sy_yes (zs tb : List Int) (i : Nat) : sy zs (i, 0) tb = ((i + (nx3 tb (field (bnum zs) i (Nat.min (8 * zs.length - i) 15)) (Nat.min (8 * zs.length - i) 15)).2.2, if (nx3 tb (field (bnum zs) i (Nat.min (8 * zs.length - i) 15)) (Nat.min (8 * zs.length - i) 15)).1 = 2 then 2 else if (nx3 tb (field (bnum zs) i (Nat.min (8 * zs.length - i) 15)) (Nat.min (8 * zs.length - i) 15)).1 = 0 then 3 else 0), (nx3 tb (field (bnum zs) i (Nat.min (8 * zs.length - i) 15)) (Nat.min (8 * zs.length - i) 15)).2.1) := by
  unfold sy
  rw [if_pos rfl]
  rfl
theorem sy_no {zs tb : List Int} {i : Nat} {x : Int} (h : x ≠ 0) : sy zs (i, x) tb = ((i, x), 0) := by
  unfold sy
  rw [if_neg h]
theorem nx3_short (tb : List Int) (b n : Nat) : (nx3 tb b n).2.2 ≤ n := by
  unfold nx3
  repeat' split
  all_goals first | assumption | exact Nat.zero_le _
/-- The step at a literal, by what the next bits say. -/
def litT (s : Nat) (c : IC) (K S l : Nat) : IC ⊕ (Int × IC) :=
  if K = 1 then
    if S < 256 then
      if 100000 < c.out.length + 1 then .inr (6, { c with lc := { c.lc with i := c.lc.i + l } }) else .inl (tellC s { c with lc := { c.lc with i := c.lc.i + l } } [(S : Int)])
    else if S = 256 then .inl { c with st := 8, lc := { c.lc with i := c.lc.i + l } }
    else if 285 < S then .inr (3, { c with lc := { c.lc with i := c.lc.i + l } })
    else .inl { c with st := 13, base := (lenR S).1, extra := (lenR S).2, lc := { c.lc with i := c.lc.i + l } }
  else if K = 2 then .inr (2, c) else .inr (3, c)
theorem literalS_T (s : Nat) (zs : List Int) (c : IC) : literalS s zs c = litT s c (nx3 c.ul (field (bnum zs) c.lc.i (Nat.min (8 * zs.length - c.lc.i) 15)) (Nat.min (8 * zs.length - c.lc.i) 15)).1 (nx3 c.ul (field (bnum zs) c.lc.i (Nat.min (8 * zs.length - c.lc.i) 15)) (Nat.min (8 * zs.length - c.lc.i) 15)).2.1 (nx3 c.ul (field (bnum zs) c.lc.i (Nat.min (8 * zs.length - c.lc.i) 15)) (Nat.min (8 * zs.length - c.lc.i) 15)).2.2 := rfl
def disT (c : IC) (K S l : Nat) : IC ⊕ (Int × IC) :=
  if K = 1 then
    if 29 < S then .inr (3, { c with lc := { c.lc with i := c.lc.i + l } })
    else .inl { c with st := 15, base := (distR S).1, extra := (distR S).2, lc := { c.lc with i := c.lc.i + l } }
  else if K = 2 then .inr (2, c) else .inr (3, c)
theorem distanceS_T (zs : List Int) (c : IC) : distanceS zs c = disT c (nx3 c.ud (field (bnum zs) c.lc.i (Nat.min (8 * zs.length - c.lc.i) 15)) (Nat.min (8 * zs.length - c.lc.i) 15)).1 (nx3 c.ud (field (bnum zs) c.lc.i (Nat.min (8 * zs.length - c.lc.i) 15)) (Nat.min (8 * zs.length - c.lc.i) 15)).2.1 (nx3 c.ud (field (bnum zs) c.lc.i (Nat.min (8 * zs.length - c.lc.i) 15)) (Nat.min (8 * zs.length - c.lc.i) 15)).2.2 := rfl
def cdiT (s : Nat) (c : IC) (E d : Nat) : IC ⊕ (Int × IC) :=
  if c.t.length < d then .inr (3, { c with lc := { c.lc with i := c.lc.i + E } })
  else if 100000 < c.out.length + c.len then .inr (6, { c with lc := { c.lc with i := c.lc.i + E } })
  else .inl { copyC s { c with lc := { c.lc with i := c.lc.i + E } } d with st := 12 }
theorem copyDistanceS_T (s : Nat) (zs : List Int) (c : IC) : copyDistanceS s zs c = if c.lc.i + c.extra ≤ 8 * zs.length then cdiT s c c.extra (c.base + field (bnum zs) c.lc.i c.extra) else .inr (2, c) := rfl
/-- A symbol of a block. -/
theorem at_sym {s : Nat} {zs : List Int} {D : Nat} {k : Int} {cf : IC} {ls ds : List Int} {b : Bool} {i : Nat} {all : List Int} (hzl : zs.length ≤ 65536) (h : IAt s zs D k cf 12 (InUse ls ds b) (i, 0) all) {i1 S : Nat} {c1 : Int} (e1 : sy zs (i, 0) ls = ((i1, c1), S)) :
    i1 ≤ 8 * zs.length ∧ (c1 ≠ 0 → S = 0 ∧ IAt s zs D k cf 12 (InUse ls ds b) (i1, c1) all) ∧ (c1 = 0 → i < i1 ∧ S < ls.length ∧ (S = 256 → IAt s zs D k cf 8 (fun c => c.last = b) (i1, 0) all) ∧ (S < 256 → ∀ i2 c2 all', tlP D (i1, 0) all [(S : Int)] = ((i2, c2), all') → IAt s zs D k cf 12 (InUse ls ds b) (i2, c2) all') ∧ (285 < S → IAt s zs D k cf 12 (InUse ls ds b) (i1, 3) all) ∧ (256 < S → S ≤ 285 → IAt s zs D k cf 13 (fun c => InUse ls ds b c ∧ c.base = (lenR S).1 ∧ c.extra = (lenR S).2) (i1, 0) all)) := by
  have hle := h.le
  dsimp only at hle
  rw [sy_yes] at e1
  have hk3 := nx3_kind ls (field (bnum zs) i (Nat.min (8 * zs.length - i) 15)) (Nat.min (8 * zs.length - i) 15)
  have hsh := nx3_short ls (field (bnum zs) i (Nat.min (8 * zs.length - i) 15)) (Nat.min (8 * zs.length - i) 15)
  have hmn : Nat.min (8 * zs.length - i) 15 ≤ 8 * zs.length - i := Nat.min_le_left _ _
  have hps := @nx3_pos ls (field (bnum zs) i (Nat.min (8 * zs.length - i) 15)) (Nat.min (8 * zs.length - i) 15)
  have hsm := @nx3_sym ls (field (bnum zs) i (Nat.min (8 * zs.length - i) 15)) (Nat.min (8 * zs.length - i) 15)
  have hz0 : (nx3 ls (field (bnum zs) i (Nat.min (8 * zs.length - i) 15)) (Nat.min (8 * zs.length - i) 15)).1 ≠ 1 → (nx3 ls (field (bnum zs) i (Nat.min (8 * zs.length - i) 15)) (Nat.min (8 * zs.length - i) 15)).2.1 = 0 := by
    unfold nx3
    repeat' split
    all_goals simp
  have hlit2 : ∀ c : IC, c.st = 12 → c.lc.i = i → c.ul = ls → istep0 s zs c = litT s c (nx3 ls (field (bnum zs) i (Nat.min (8 * zs.length - i) 15)) (Nat.min (8 * zs.length - i) 15)).1 (nx3 ls (field (bnum zs) i (Nat.min (8 * zs.length - i) 15)) (Nat.min (8 * zs.length - i) 15)).2.1 (nx3 ls (field (bnum zs) i (Nat.min (8 * zs.length - i) 15)) (Nat.min (8 * zs.length - i) 15)).2.2 := fun c h1 h2 h3 => by
    rw [istep0_12 h1, literalS_T, h2, h3]
  generalize nx3 ls (field (bnum zs) i (Nat.min (8 * zs.length - i) 15)) (Nat.min (8 * zs.length - i) 15) = X at *
  obtain ⟨K, S', l⟩ := X
  dsimp only at *
  injection e1 with e1 eS
  injection e1 with e1 e1'
  subst eS; subst e1
  refine ⟨by omega, fun hc => ?_, fun hc => ?_⟩
  · have hK : K ≠ 1 := by
      intro e; subst e
      rw [if_neg (by decide), if_neg (by decide)] at e1'
      exact hc e1'.symm
    refine ⟨hz0 hK, ?_⟩
    rcases hk3 with e | e | e
    · subst e
      rw [if_neg (by decide), if_pos rfl] at e1'
      subst e1'
      exact h.fail rfl (by omega) _ (by omega) 3 (by decide) (fun c h1 h2 h3 h4 h5 h6 => ⟨c, by rw [hlit2 c h1 h2 h6.1]; unfold litT; rw [if_neg (by decide), if_neg (by decide)]⟩)
    · exact absurd e hK
    · subst e
      rw [if_pos rfl] at e1'
      subst e1'
      exact h.fail rfl (by omega) _ (by omega) 2 (by decide) (fun c h1 h2 h3 h4 h5 h6 => ⟨c, by rw [hlit2 c h1 h2 h6.1]; unfold litT; rw [if_neg (by decide), if_pos rfl]⟩)
  · have hK : K = 1 := by
      rcases hk3 with e | e | e
      · subst e; rw [if_neg (by decide), if_pos rfl] at e1'; omega
      · exact e
      · subst e; rw [if_pos rfl] at e1'; omega
    subst hK
    have hl1 := hps rfl
    refine ⟨by omega, (hsm rfl).1, fun h256 => ?_, fun hlt => ?_, fun hgt => ?_, fun hg1 hg2 => ?_⟩
    · exact h.go hzl rfl (by omega) _ all (fun c h1 h2 h3 h4 h5 h6 => ⟨{ c with st := 8, lc := { c.lc with i := c.lc.i + l } }, by rw [hlit2 c h1 h2 h6.1]; unfold litT; rw [if_pos rfl, if_neg (by omega), if_pos h256], rfl, by show c.lc.i + l = _; rw [h2], h4, h5, h6.2.2⟩) h.len.1
    · intro i2 c2 all' e2
      unfold tlP at e2
      rw [if_pos rfl, List.length_singleton] at e2
      by_cases hL : 100000 < all.length - D + 1
      · rw [if_pos hL] at e2
        injection e2 with e2 e2'
        injection e2 with e2 e2''
        subst e2; subst e2'; subst e2''
        exact h.fail rfl (by omega) _ (by omega) 6 (by decide) (fun c h1 h2 h3 h4 h5 h6 => ⟨_, by rw [hlit2 c h1 h2 h6.1]; unfold litT; rw [if_pos rfl, if_pos hlt, if_pos (by rw [h4, List.length_drop]; exact hL)]⟩)
      · rw [if_neg hL] at e2
        injection e2 with e2 e2'
        injection e2 with e2 e2''
        subst e2; subst e2'; subst e2''
        exact h.go hzl rfl (by omega) _ _ (fun c h1 h2 h3 h4 h5 h6 => ⟨tellC s { c with lc := { c.lc with i := c.lc.i + l } } [(S' : Int)], by rw [hlit2 c h1 h2 h6.1]; unfold litT; rw [if_pos rfl, if_pos hlt, if_neg (by rw [h4, List.length_drop]; exact hL)], h1, by show c.lc.i + l = _; rw [h2], by show c.out ++ _ = _; rw [h4, List.drop_append_of_le_length h.len.1], by show lastN s (c.t ++ _) = _; rw [h5, lastN_lastN], h6⟩) (by rw [List.length_append]; have := h.len.1; omega)
    · exact h.fail rfl (by omega) _ (by omega) 3 (by decide) (fun c h1 h2 h3 h4 h5 h6 => ⟨_, by rw [hlit2 c h1 h2 h6.1]; unfold litT; rw [if_pos rfl, if_neg (by omega), if_neg (by omega), if_pos hgt]⟩)
    · exact h.go hzl rfl (by omega) _ all (fun c h1 h2 h3 h4 h5 h6 => ⟨{ c with st := 13, base := (lenR S').1, extra := (lenR S').2, lc := { c.lc with i := c.lc.i + l } }, by rw [hlit2 c h1 h2 h6.1]; unfold litT; rw [if_pos rfl, if_neg (by omega), if_neg (by omega), if_neg (by omega)], rfl, by show c.lc.i + l = _; rw [h2], h4, h5, h6, rfl, rfl⟩) h.len.1
/-- A copy's length. -/
theorem at_clen {s : Nat} {zs : List Int} {D : Nat} {k : Int} {cf : IC} {Q : IC → Prop} {B E : Nat} {i : Nat} {all : List Int} (hzl : zs.length ≤ 65536) (hQ : ∀ c c' : IC, c'.ul = c.ul → c'.ud = c.ud → c'.last = c.last → Q c → Q c') (h : IAt s zs D k cf 13 (fun c => Q c ∧ c.base = B ∧ c.extra = E) (i, 0) all) {i1 x : Nat} {c1 : Int} (e1 : tk zs (i, 0) E = ((i1, c1), x)) :
    i ≤ i1 ∧ IAt s zs D k cf 14 (fun c => Q c ∧ c.len = B + x) (i1, c1) all := by
  have hle := h.le
  dsimp only at hle
  by_cases hb : i + E ≤ 8 * zs.length
  · rw [tk_yes hb] at e1
    injection e1 with e1 eL
    injection e1 with e1 e1'
    subst e1; subst e1'; subst eL
    exact ⟨by omega, h.go hzl rfl (by omega) _ all (fun c h1 h2 h3 h4 h5 h6 => ⟨{ c with st := 14, len := c.base + field (bnum zs) c.lc.i c.extra, lc := { c.lc with i := c.lc.i + c.extra } }, by rw [istep0_13 h1]; unfold copyLengthS; rw [if_pos (by rw [h2, h6.2.2]; exact hb)], rfl, by show c.lc.i + c.extra = _; rw [h2, h6.2.2], h4, h5, hQ c _ rfl rfl rfl h6.1, by show c.base + field (bnum zs) c.lc.i c.extra = _; rw [h2, h6.2.2, h6.2.1]⟩) h.len.1⟩
  · rw [tk_short hb] at e1
    injection e1 with e1 eL
    injection e1 with e1 e1'
    subst e1; subst e1'; subst eL
    exact ⟨by omega, h.fail rfl (by omega) _ hle 2 (by decide) (fun c h1 h2 h3 h4 h5 h6 => ⟨c, by rw [istep0_13 h1]; unfold copyLengthS; rw [if_neg (by rw [h2, h6.2.2]; exact hb)]⟩)⟩
/-- A copy's distance: the symbol. -/
theorem at_cdist {s : Nat} {zs : List Int} {D : Nat} {k : Int} {cf : IC} {ls ds : List Int} {b : Bool} {n : Nat} {i : Nat} {c0 : Int} {all : List Int} (hzl : zs.length ≤ 65536) (h : IAt s zs D k cf 14 (fun c => InUse ls ds b c ∧ c.len = n) (i, c0) all) {i1 d i2 : Nat} {c1 c2 : Int} (e1 : sy zs (i, c0) ds = ((i1, c1), d)) (e2 : bdP (i1, c1) (decide ((d : Int) > 29)) = (i2, c2)) :
    i ≤ i1 ∧ i1 ≤ 8 * zs.length ∧ i2 = i1 ∧ (c2 = 0 → d ≤ 29) ∧ IAt s zs D k cf 15 (fun c => (InUse ls ds b c ∧ c.len = n) ∧ c.base = (distR d).1 ∧ c.extra = (distR d).2) (i2, c2) all := by
  have hle := h.le
  dsimp only at hle
  by_cases hc0 : c0 = 0
  · subst hc0
    rw [sy_yes] at e1
    have hk3 := nx3_kind ds (field (bnum zs) i (Nat.min (8 * zs.length - i) 15)) (Nat.min (8 * zs.length - i) 15)
    have hsh := nx3_short ds (field (bnum zs) i (Nat.min (8 * zs.length - i) 15)) (Nat.min (8 * zs.length - i) 15)
    have hmn : Nat.min (8 * zs.length - i) 15 ≤ 8 * zs.length - i := Nat.min_le_left _ _
    have hz0 : (nx3 ds (field (bnum zs) i (Nat.min (8 * zs.length - i) 15)) (Nat.min (8 * zs.length - i) 15)).1 ≠ 1 → (nx3 ds (field (bnum zs) i (Nat.min (8 * zs.length - i) 15)) (Nat.min (8 * zs.length - i) 15)).2.1 = 0 := by
      unfold nx3
      repeat' split
      all_goals simp
    have hlit2 : ∀ c : IC, c.st = 14 → c.lc.i = i → c.ud = ds → istep0 s zs c = disT c (nx3 ds (field (bnum zs) i (Nat.min (8 * zs.length - i) 15)) (Nat.min (8 * zs.length - i) 15)).1 (nx3 ds (field (bnum zs) i (Nat.min (8 * zs.length - i) 15)) (Nat.min (8 * zs.length - i) 15)).2.1 (nx3 ds (field (bnum zs) i (Nat.min (8 * zs.length - i) 15)) (Nat.min (8 * zs.length - i) 15)).2.2 := fun c h1 h2 h3 => by
      rw [istep0_14 h1, distanceS_T, h2, h3]
    generalize nx3 ds (field (bnum zs) i (Nat.min (8 * zs.length - i) 15)) (Nat.min (8 * zs.length - i) 15) = X at *
    obtain ⟨K, d', l⟩ := X
    dsimp only at *
    injection e1 with e1 eS
    injection e1 with e1 e1'
    subst eS; subst e1
    have hf := ibdP_fst (i + l, c1) (decide ((d' : Int) > 29))
    rw [e2] at hf
    dsimp only at hf
    refine ⟨by omega, by omega, hf, ?_⟩
    subst hf
    rcases hk3 with e | e | e
    · subst e
      rw [if_neg (by decide), if_pos rfl] at e1'
      subst e1'
      rw [bdP_no (show (3 : Int) ≠ 0 by decide)] at e2
      injection e2 with _ e2
      subst e2
      exact ⟨fun h => by omega, h.fail rfl (by omega) _ (by omega) 3 (by decide) (fun c h1 h2 h3 h4 h5 h6 => ⟨c, by rw [hlit2 c h1 h2 h6.1.2.1]; unfold disT; rw [if_neg (by decide), if_neg (by decide)]⟩)⟩
    · subst e
      rw [if_neg (by decide), if_neg (by decide)] at e1'
      subst e1'
      by_cases hd : 29 < d'
      · rw [decide_eq_true (by omega), bdP_yes] at e2
        injection e2 with _ e2
        subst e2
        exact ⟨fun h => by omega, h.fail rfl (by omega) _ (by omega) 3 (by decide) (fun c h1 h2 h3 h4 h5 h6 => ⟨_, by rw [hlit2 c h1 h2 h6.1.2.1]; unfold disT; rw [if_pos rfl, if_pos hd]⟩)⟩
      · rw [decide_eq_false (by omega), bdP_not] at e2
        injection e2 with _ e2
        subst e2
        exact ⟨fun _ => by omega, h.go hzl rfl (by omega) _ all (fun c h1 h2 h3 h4 h5 h6 => ⟨{ c with st := 15, base := (distR d').1, extra := (distR d').2, lc := { c.lc with i := c.lc.i + l } }, by rw [hlit2 c h1 h2 h6.1.2.1]; unfold disT; rw [if_pos rfl, if_neg hd], rfl, by show c.lc.i + l = _; rw [h2], h4, h5, h6, rfl, rfl⟩) h.len.1⟩
    · subst e
      rw [if_pos rfl] at e1'
      subst e1'
      rw [bdP_no (show (2 : Int) ≠ 0 by decide)] at e2
      injection e2 with _ e2
      subst e2
      exact ⟨fun h => by omega, h.fail rfl (by omega) _ (by omega) 2 (by decide) (fun c h1 h2 h3 h4 h5 h6 => ⟨c, by rw [hlit2 c h1 h2 h6.1.2.1]; unfold disT; rw [if_neg (by decide), if_pos rfl]⟩)⟩
  · rw [sy_no hc0] at e1
    injection e1 with e1 eS
    injection e1 with e1 e1'
    subst eS; subst e1; subst e1'
    rw [bdP_no hc0] at e2
    injection e2 with e2 e2'
    subst e2; subst e2'
    exact ⟨Nat.le_refl _, hle, rfl, fun _ => by omega, h.off hc0⟩
/-- A copy itself. -/
theorem at_copy {s : Nat} {zs : List Int} {D : Nat} {k : Int} {cf : IC} {ls ds : List Int} {b : Bool} {n B E : Nat} {i : Nat} {all : List Int} (hzl : zs.length ≤ 65536) (h : IAt s zs D k cf 15 (fun c => (InUse ls ds b c ∧ c.len = n) ∧ c.base = B ∧ c.extra = E) (i, 0) all) {i1 y i2 i3 : Nat} {c1 c2 c3 : Int} {all' : List Int} (e1 : tk zs (i, 0) E = ((i1, c1), y)) (e2 : bdP (i1, c1) (decide (all.length < B + y ∨ s < B + y)) = (i2, c2)) (e3 : tlP D (i2, c2) all (dataN all (B + y) n) = ((i3, c3), all')) :
    i ≤ i1 ∧ i1 ≤ 8 * zs.length ∧ i2 = i1 ∧ (c2 = 0 → B + y ≤ all.length ∧ B + y ≤ s) ∧ i3 = i2 ∧ IAt s zs D k cf 12 (InUse ls ds b) (i3, c3) all' := by
  have hle := h.le
  have hD := h.len
  dsimp only at hle
  have hf := ibdP_fst (i1, c1) (decide (all.length < B + y ∨ s < B + y))
  rw [e2] at hf
  dsimp only at hf
  have h3 : i3 = i2 := by
    unfold tlP at e3
    repeat' (split at e3)
    all_goals (injection e3 with e3 _; injection e3 with e3 _; exact e3.symm)
  subst h3
  subst hf
  by_cases hb : i + E ≤ 8 * zs.length
  · rw [tk_yes hb] at e1
    injection e1 with e1 eL
    injection e1 with e1 e1'
    subst e1; subst e1'; subst eL
    refine ⟨by omega, hb, rfl, ?_⟩
    have hstep2 : ∀ c : IC, c.st = 15 → c.lc.i = i → c.extra = E → c.base = B → istep0 s zs c = cdiT s c E (B + field (bnum zs) i E) := fun c h1 h2 h3 h4 => by
      rw [istep0_15 h1, copyDistanceS_T, h2, h3, h4, if_pos hb]
    generalize field (bnum zs) i E = y at *
    have htl : ∀ c : IC, c.t = lastN s all → c.t.length = min all.length s := fun c h => by rw [h, lastN_len]
    by_cases hd : all.length < B + y ∨ s < B + y
    · rw [decide_eq_true hd, bdP_yes] at e2
      injection e2 with _ e2
      subst e2
      unfold tlP at e3
      rw [if_neg (show ¬ (3 : Int) = 0 by decide)] at e3
      injection e3 with e3 e3'
      injection e3 with _ e3
      subst e3; subst e3'
      exact ⟨fun h => by omega, rfl, h.fail rfl (by omega) _ hb 3 (by decide) (fun c h1 h2 h3 h4 h5 h6 => ⟨_, by rw [hstep2 c h1 h2 h6.2.2 h6.2.1]; unfold cdiT; rw [if_pos (by rw [htl c h5]; omega)]⟩)⟩
    · rw [decide_eq_false hd, bdP_not] at e2
      injection e2 with _ e2
      subst e2
      unfold tlP at e3
      rw [if_pos rfl, dataN_len] at e3
      refine ⟨fun _ => by omega, rfl, ?_⟩
      by_cases hL : 100000 < all.length - D + n
      · rw [if_pos hL] at e3
        injection e3 with e3 e3'
        injection e3 with _ e3
        subst e3; subst e3'
        exact h.fail rfl (by omega) _ hb 6 (by decide) (fun c h1 h2 h3 h4 h5 h6 => ⟨_, by rw [hstep2 c h1 h2 h6.2.2 h6.2.1]; unfold cdiT; rw [if_neg (by rw [htl c h5]; omega), if_pos (by rw [h4, h6.1.2, List.length_drop]; exact hL)]⟩)
      · rw [if_neg hL] at e3
        injection e3 with e3 e3'
        injection e3 with _ e3
        subst e3; subst e3'
        refine h.go hzl rfl (by omega) _ _ (fun c h1 h2 h3 h4 h5 h6 => ⟨{ copyC s { c with lc := { c.lc with i := c.lc.i + E } } (B + y) with st := 12 }, by rw [hstep2 c h1 h2 h6.2.2 h6.2.1]; unfold cdiT; rw [if_neg (by rw [htl c h5]; omega), if_neg (by rw [h4, h6.1.2, List.length_drop]; exact hL)], rfl, by show c.lc.i + E = _; rw [h2], ?_, ?_, h6.1.1⟩) (by rw [List.length_append]; omega)
        · show c.out ++ dataN c.t (B + y) c.len = _
          rw [h4, h5, h6.1.2, idataN_last s all (B + y) n (by rw [lastN_len]; omega), List.drop_append_of_le_length hD.1]
        · show lastN s (copyN c.t (B + y) c.len) = _
          rw [h5, h6.1.2, icopyN_last s all (B + y) n (by rw [lastN_len]; omega), copyN_app]
  · rw [tk_short hb] at e1
    injection e1 with e1 eL
    injection e1 with e1 e1'
    subst e1; subst e1'; subst eL
    rw [bdP_no (show (2 : Int) ≠ 0 by decide)] at e2
    injection e2 with _ e2
    subst e2
    unfold tlP at e3
    rw [if_neg (show ¬ (2 : Int) = 0 by decide)] at e3
    injection e3 with e3 e3'
    injection e3 with _ e3
    subst e3; subst e3'
    exact ⟨by omega, hle, rfl, fun h => by omega, rfl, h.fail rfl (by omega) _ hle 2 (by decide) (fun c h1 h2 h3 h4 h5 h6 => ⟨c, by rw [istep0_15 h1]; unfold copyDistanceS; rw [if_neg (by rw [h2, h6.2.2]; exact hb)]⟩)⟩
end Go.Proofs.YtlfabilmilkboaaGreatDoor
