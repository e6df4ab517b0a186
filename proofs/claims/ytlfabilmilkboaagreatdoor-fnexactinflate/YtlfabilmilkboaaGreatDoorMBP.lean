import Derived.Test.YtlfabilmilkboaaGreatDoorMBI
import Derived.Test.YtlfabilmilkboaaGreatDoorMBO
namespace Go.Proofs.YtlfabilmilkboaaGreatDoor
open Go.RowKit
set_option linter.unusedVariables false

/-! ### THE MODEL's READING OF BLOCKS AGAINST THE INFLATER's STEPS -/
theorem icopyN_drop (T : List Int) (c dist : Nat) (hc : c ≤ T.length) (h : dist ≤ T.length - c) (i : Nat) : copyN (T.drop c) dist i = (copyN T dist i).drop c := by
  induction i with
  | zero => rfl
  | succ i ih =>
    have hl := copyN_len T dist i
    rw [copyN, copyN, ih, List.drop_append_of_le_length (by omega), getD_drop, List.length_drop]
    congr 3
    omega
theorem idataN_last (n : Nat) (T : List Int) (dist i : Nat) (h : dist ≤ (lastN n T).length) : dataN (lastN n T) dist i = dataN T dist i := by
  rw [lastN_len] at h
  unfold dataN
  rw [lastN_len, lastN, icopyN_drop T (T.length - n) dist (by omega) (by omega), List.drop_drop]
  congr 1
  omega
theorem ilastN_drop (n c : Nat) (Y : List Int) (h : c ≤ Y.length - n) : lastN n (Y.drop c) = lastN n Y := by
  unfold lastN
  rw [List.length_drop, List.drop_drop]
  congr 1
  omega
theorem icopyN_last (n : Nat) (T : List Int) (dist i : Nat) (h : dist ≤ (lastN n T).length) : lastN n (copyN (lastN n T) dist i) = lastN n (copyN T dist i) := by
  rw [lastN_len] at h
  have e : copyN (lastN n T) dist i = (copyN T dist i).drop (T.length - n) := by rw [lastN, icopyN_drop T (T.length - n) dist (by omega) (by omega)]
  rw [e]
  exact ilastN_drop _ _ _ (by rw [copyN_len]; omega)
theorem copyN_app (T : List Int) (dist i : Nat) : copyN T dist i = T ++ dataN T dist i := by
  induction i with
  | zero => simp [copyN, dataN]
  | succ i ih => rw [dataN_succ, ← List.append_assoc, ← ih, copyN]
theorem ibdP_fst (r : RR) (p : Bool) : (bdP r p).1 = r.1 := by unfold bdP; split <;> rfl
theorem field_add (N i a b : Nat) : field N i (a + b) = field N i a + 2 ^ a * field N (i + a) b := by
  unfold field
  rw [Nat.pow_add, Nat.mod_mul, Nat.div_div_eq_div_mul, ← Nat.pow_add]
theorem field_byte {zs : List Int} (hz : Octets zs) (i : Nat) (h8 : i % 8 = 0) (hi : i + 8 ≤ 8 * zs.length) : ((field (bnum zs) i 8 : Nat) : Int) = zs.getD (i / 8) 0 := by
  rw [← field_drop zs hz i 8 (by omega), h8]
  have hl : i / 8 < zs.length := by omega
  rw [List.drop_eq_getElem_cons hl, List.getD_eq_getElem?_getD, List.getElem?_eq_getElem hl]
  have hb := hz _ (List.getElem_mem hl)
  unfold field
  rw [bnum]
  simp only [Option.getD_some]
  generalize zs[i / 8] = z at *
  have h0 : 0 ≤ z := by simp only [Octets] at *; omega
  have h1 : z ≤ 255 := by simp only [Octets] at *; omega
  have e : (z.toNat + 256 * bnum (zs.drop (i / 8 + 1))) / 2 ^ 0 % 2 ^ 8 = z.toNat := by
    rw [Nat.pow_zero, Nat.div_one]
    omega
  rw [e]
  omega

/-- Where the model's reading stands against the inflater that ends with k at cf; D: the dictionary's length. -/
structure IAt (s : Nat) (zs : List Int) (D : Nat) (k : Int) (cf : IC) (st : Nat) (P : IC → Prop) (r : RR) (all : List Int) : Prop where
  len : D ≤ all.length ∧ all.length ≤ D + 100000
  le : r.1 ≤ 8 * zs.length
  no : r.2 ≠ 0 → r.2 = k ∧ k ≠ 1 ∧ cf.out = all.drop D
  yes : r.2 = 0 → ∃ c, c.st = st ∧ c.lc.i = r.1 ∧ IWell zs c ∧ c.out = all.drop D ∧ c.t = lastN s all ∧ IEnds s zs c k cf ∧ P c
theorem IAt.off {s : Nat} {zs : List Int} {D : Nat} {k : Int} {cf : IC} {st st' : Nat} {P P' : IC → Prop} {r : RR} {all : List Int} (h : IAt s zs D k cf st P r all) (h0 : r.2 ≠ 0) : IAt s zs D k cf st' P' r all :=
  ⟨h.len, h.le, h.no, fun e => absurd e h0⟩
theorem IAt.weak {s : Nat} {zs : List Int} {D : Nat} {k : Int} {cf : IC} {st : Nat} {P Q : IC → Prop} {r : RR} {all : List Int} (h : IAt s zs D k cf st P r all) (hq : ∀ c, P c → Q c) : IAt s zs D k cf st Q r all :=
  ⟨h.len, h.le, h.no, fun e => by obtain ⟨c, h1, h2, h3, h4, h5, h6, h7⟩ := h.yes e; exact ⟨c, h1, h2, h3, h4, h5, h6, hq c h7⟩⟩
/-- The inflater stops where the model does. -/
theorem IAt.fail {s : Nat} {zs : List Int} {D : Nat} {k : Int} {cf : IC} {st st' : Nat} {P P' : IC → Prop} {r : RR} {all : List Int} (h : IAt s zs D k cf st P r all) (h0 : r.2 = 0) (h15 : st ≤ 15) (i' : Nat) (hi : i' ≤ 8 * zs.length) (k2 : Int) (hk0 : k2 ≠ 0)
    (hst : ∀ c, c.st = st → c.lc.i = r.1 → IWell zs c → c.out = all.drop D → c.t = lastN s all → P c → ∃ c2, istep0 s zs c = .inr (k2, c2)) : IAt s zs D k cf st' P' (i', k2) all := by
  obtain ⟨c, h1, h2, h3, h4, h5, h6, h7⟩ := h.yes h0
  obtain ⟨c2, hs⟩ := hst c h1 h2 h3 h4 h5 h7
  obtain ⟨e1, e2⟩ := h6.stop (by omega) hs
  refine ⟨h.len, hi, fun _ => ⟨e1.symm, ?_, ?_⟩, fun e => absurd e hk0⟩
  · rcases istep0_no1 hs with h | h | h <;> omega
  · rw [e2, istep0_out hs, h4]
/-- The inflater goes on where the model does. -/
theorem IAt.go {s : Nat} {zs : List Int} {D : Nat} {k : Int} {cf : IC} {st st' : Nat} {P P' : IC → Prop} {r : RR} {all : List Int} (h : IAt s zs D k cf st P r all) (hzl : zs.length ≤ 65536) (h0 : r.2 = 0) (h15 : st ≤ 15) (i' : Nat) (all' : List Int)
    (hst : ∀ c, c.st = st → c.lc.i = r.1 → IWell zs c → c.out = all.drop D → c.t = lastN s all → P c → ∃ c2, istep0 s zs c = .inl c2 ∧ c2.st = st' ∧ c2.lc.i = i' ∧ c2.out = all'.drop D ∧ c2.t = lastN s all' ∧ P' c2) (hl : D ≤ all'.length) : IAt s zs D k cf st' P' (i', 0) all' := by
  obtain ⟨c, h1, h2, h3, h4, h5, h6, h7⟩ := h.yes h0
  obtain ⟨c2, hs, a1, a2, a3, a4, a5⟩ := hst c h1 h2 h3 h4 h5 h7
  have hW := (istep0_ok h3 (by omega) hzl hs).1
  have ho := hW.out
  rw [a3, List.length_drop] at ho
  refine ⟨⟨hl, by omega⟩, by rw [← a2]; exact hW.le, fun e => absurd rfl e, fun _ => ⟨c2, a1, a2, hW, a3, a4, h6.step (by omega) hs, a5⟩⟩
theorem istep0_6 {s : Nat} {zs : List Int} {c : IC} (h : c.st = 6) : istep0 s zs c = dynamicCodesS c := by simp [istep0, h]
theorem istep0_7 {s : Nat} {zs : List Int} {c : IC} (h : c.st = 7) : istep0 s zs c = blockHeadS zs c := by simp [istep0, h]
theorem istep0_8 {s : Nat} {zs : List Int} {c : IC} (h : c.st = 8) : istep0 s zs c = blockEndS c := by simp [istep0, h]
theorem istep0_9 {s : Nat} {zs : List Int} {c : IC} (h : c.st = 9) : istep0 s zs c = storedHeadS zs c := by simp [istep0, h]
theorem istep0_10 {s : Nat} {zs : List Int} {c : IC} (h : c.st = 10) : istep0 s zs c = storedBytesS s zs c := by simp [istep0, h]
theorem istep0_11 {s : Nat} {zs : List Int} {c : IC} (h : c.st = 11) : istep0 s zs c = fixedCodesS c := by simp [istep0, h]
theorem istep0_12 {s : Nat} {zs : List Int} {c : IC} (h : c.st = 12) : istep0 s zs c = literalS s zs c := by simp [istep0, h]
theorem istep0_13 {s : Nat} {zs : List Int} {c : IC} (h : c.st = 13) : istep0 s zs c = copyLengthS zs c := by simp [istep0, h]
theorem istep0_14 {s : Nat} {zs : List Int} {c : IC} (h : c.st = 14) : istep0 s zs c = distanceS zs c := by simp [istep0, h]
theorem istep0_15 {s : Nat} {zs : List Int} {c : IC} (h : c.st = 15) : istep0 s zs c = copyDistanceS s zs c := by simp [istep0, h]

theorem tk_yes {zs : List Int} {i n : Nat} (h : i + n ≤ 8 * zs.length) : tk zs (i, 0) n = ((i + n, 0), field (bnum zs) i n) := by unfold tk; rw [if_pos rfl, if_pos h]
theorem tk_short {zs : List Int} {i n : Nat} (h : ¬ i + n ≤ 8 * zs.length) : tk zs (i, 0) n = ((i, 2), 0) := by unfold tk; rw [if_pos rfl, if_neg h]
theorem tk_two {zs : List Int} {i n : Nat} {x : Int} (h : x ≠ 0) : tk zs (i, x) n = ((i, x), 0) := tk_no h
/-- A block's head: the model reads it as one bit and two. -/
theorem at_head {s : Nat} {zs : List Int} {D : Nat} {k : Int} {cf : IC} {P : IC → Prop} {i : Nat} {all : List Int} (hzl : zs.length ≤ 65536) (h : IAt s zs D k cf 7 P (i, 0) all) {i1 i2 i3 L K : Nat} {c1 c2 c3 : Int} (e1 : tk zs (i, 0) 1 = ((i1, c1), L)) (e2 : tk zs (i1, c1) 2 = ((i2, c2), K)) (e3 : bdP (i2, c2) (decide (K = 3)) = (i3, c3)) :
    L ≤ 1 ∧ K ≤ 3 ∧ i3 ≤ 8 * zs.length ∧ ((c3 ≠ 0 ∧ IAt s zs D k cf 7 (fun _ => True) (i3, c3) all) ∨ (c3 = 0 ∧ K = 0 ∧ IAt s zs D k cf 9 (fun c => c.last = decide (L = 1)) ((i3 + 7) / 8 * 8, 0) all) ∨ (c3 = 0 ∧ K = 1 ∧ IAt s zs D k cf 11 (fun c => c.last = decide (L = 1)) (i3, 0) all) ∨ (c3 = 0 ∧ K = 2 ∧ IAt s zs D k cf 0 (fun c => c.last = decide (L = 1)) (i3, 0) all)) := by
  have hle := h.le
  dsimp only at hle
  by_cases hb : i + 3 ≤ 8 * zs.length
  · rw [tk_yes (by omega)] at e1
    injection e1 with e1 eL
    injection e1 with e1 e1'
    subst e1; subst e1'; subst eL
    rw [tk_yes (by omega)] at e2
    injection e2 with e2 eK
    injection e2 with e2 e2'
    subst e2; subst e2'; subst eK
    have hf := field_add (bnum zs) i 1 2
    have hL := field_lt (bnum zs) i 1
    have hK := field_lt (bnum zs) (i + 1) 2
    rw [show (1 + 2 : Nat) = 3 from rfl, show (2 : Nat) ^ 1 = 2 from rfl] at hf
    rw [show (2 : Nat) ^ 1 = 2 from rfl] at hL
    rw [show (2 : Nat) ^ 2 = 4 from rfl] at hK
    generalize field (bnum zs) i 1 = L at *
    generalize field (bnum zs) (i + 1) 2 = K at *
    have q2 : field (bnum zs) i 3 / 2 = K := by omega
    have q1 : field (bnum zs) i 3 % 2 = L := by omega
    have hbs : ∀ c : IC, c.st = 7 → c.lc.i = i → istep0 s zs c = (if K = 0 then .inl { c with st := 9, last := decide (L = 1), lc := { c.lc with i := (i + 3 + 7) / 8 * 8 } } else if K = 1 then .inl { c with st := 11, last := decide (L = 1), lc := { c.lc with i := i + 3 } } else if K = 2 then .inl { c with st := 0, last := decide (L = 1), lc := { c.lc with i := i + 3 } } else .inr (3, { c with last := decide (L = 1), lc := { c.lc with i := i + 3 } })) := by
      intro c h1 h2
      rw [istep0_7 h1]
      unfold blockHeadS
      rw [h2, if_pos hb, q2, q1]
    refine ⟨by omega, by omega, ?_, ?_⟩
    · have := ibdP_fst (i + 1 + 2, 0) (decide (K = 3))
      rw [e3] at this
      dsimp only at this
      omega
    · have hK4 : K = 0 ∨ K = 1 ∨ K = 2 ∨ K = 3 := by omega
      rcases hK4 with rfl | rfl | rfl | rfl
      · rw [show decide ((0 : Nat) = 3) = false from rfl, bdP_not] at e3
        injection e3 with e3 e3'
        subst e3; subst e3'
        refine .inr (.inl ⟨rfl, rfl, ?_⟩)
        refine h.go hzl rfl (by omega) _ all (fun c h1 h2 h3 h4 h5 h6 => ⟨_, (hbs c h1 h2).trans (if_pos rfl), rfl, ?_, h4, h5, rfl⟩) h.len.1
        rfl
      · rw [show decide ((1 : Nat) = 3) = false from rfl, bdP_not] at e3
        injection e3 with e3 e3'
        subst e3; subst e3'
        refine .inr (.inr (.inl ⟨rfl, rfl, ?_⟩))
        refine h.go hzl rfl (by omega) _ all (fun c h1 h2 h3 h4 h5 h6 => ⟨_, (hbs c h1 h2).trans ((if_neg (by decide)).trans (if_pos rfl)), rfl, ?_, h4, h5, rfl⟩) h.len.1
        rfl
      · rw [show decide ((2 : Nat) = 3) = false from rfl, bdP_not] at e3
        injection e3 with e3 e3'
        subst e3; subst e3'
        refine .inr (.inr (.inr ⟨rfl, rfl, ?_⟩))
        refine h.go hzl rfl (by omega) _ all (fun c h1 h2 h3 h4 h5 h6 => ⟨_, (hbs c h1 h2).trans ((if_neg (by decide)).trans ((if_neg (by decide)).trans (if_pos rfl))), rfl, ?_, h4, h5, rfl⟩) h.len.1
        rfl
      · rw [show decide ((3 : Nat) = 3) = true from rfl, bdP_yes] at e3
        injection e3 with e3 e3'
        subst e3; subst e3'
        refine .inl ⟨by decide, ?_⟩
        exact h.fail rfl (by omega) _ (by omega) 3 (by decide) (fun c h1 h2 h3 h4 h5 h6 => ⟨_, (hbs c h1 h2).trans ((if_neg (by decide)).trans ((if_neg (by decide)).trans (if_neg (by decide))))⟩)
  · have hno : ∀ (i' : Nat), i' ≤ 8 * zs.length → IAt s zs D k cf 7 (fun _ => True) (i', 2) all := fun i' hi' => h.fail rfl (by omega) i' hi' 2 (by decide) (fun c h1 h2 h3 h4 h5 h6 => ⟨c, by
      rw [istep0_7 h1]
      unfold blockHeadS
      rw [h2, if_neg hb]⟩)
    by_cases hb1 : i + 1 ≤ 8 * zs.length
    · rw [tk_yes hb1] at e1
      injection e1 with e1 eL
      injection e1 with e1 e1'
      subst e1; subst e1'; subst eL
      rw [tk_short (by omega)] at e2
      injection e2 with e2 eK
      injection e2 with e2 e2'
      subst e2; subst e2'; subst eK
      rw [bdP_no (show (2 : Int) ≠ 0 by decide)] at e3
      injection e3 with e3 e3'
      subst e3; subst e3'
      have := field_lt (bnum zs) i 1
      exact ⟨by rw [show (2 : Nat) ^ 1 = 2 from rfl] at this; omega, by omega, hb1, .inl ⟨by decide, hno _ hb1⟩⟩
    · rw [tk_short hb1] at e1
      injection e1 with e1 eL
      injection e1 with e1 e1'
      subst e1; subst e1'; subst eL
      rw [tk_two (by decide)] at e2
      injection e2 with e2 eK
      injection e2 with e2 e2'
      subst e2; subst e2'; subst eK
      rw [bdP_no (show (2 : Int) ≠ 0 by decide)] at e3
      injection e3 with e3 e3'
      subst e3; subst e3'
      exact ⟨by omega, by omega, hle, .inl ⟨by decide, hno _ hle⟩⟩
/-- The end of a block. -/
theorem at_end {s : Nat} {zs : List Int} {D : Nat} {k : Int} {cf : IC} {b : Bool} {r : RR} {all : List Int} (hzl : zs.length ≤ 65536) (h : IAt s zs D k cf 8 (fun c => c.last = b) r all) : IAt s zs D k cf (if b = true then 16 else 7) (fun _ => True) r all := by
  by_cases h0 : r.2 = 0
  · have := h.go (st' := if b = true then 16 else 7) (P' := fun _ => True) hzl h0 (by omega) r.1 all (fun c h1 h2 h3 h4 h5 h6 => by
      cases b with
      | true => exact ⟨{ c with st := 16 }, by rw [istep0_8 h1]; unfold blockEndS; rw [if_pos h6], rfl, h2, h4, h5, trivial⟩
      | false => exact ⟨{ c with st := 7 }, by rw [istep0_8 h1]; unfold blockEndS; rw [if_neg (by rw [h6]; decide)], rfl, h2, h4, h5, trivial⟩) h.len.1
    rw [← h0] at this
    exact this
  · exact h.off h0
/-- A stored block's head. -/
theorem at_stored {s : Nat} {zs : List Int} {D : Nat} {k : Int} {cf : IC} {b : Bool} {i : Nat} {all : List Int} (hzl : zs.length ≤ 65536) (h : IAt s zs D k cf 9 (fun c => c.last = b) (i, 0) all) {i1 i2 i3 n m : Nat} {c1 c2 c3 : Int} (e1 : tk zs (i, 0) 16 = ((i1, c1), n)) (e2 : tk zs (i1, c1) 16 = ((i2, c2), m)) (e3 : bdP (i2, c2) (decide ((m : Int) ≠ 65535 - (n : Int))) = (i3, c3)) :
    n ≤ 65535 ∧ m ≤ 65535 ∧ i3 ≤ 8 * zs.length ∧ IAt s zs D k cf 10 (fun c => c.last = b ∧ c.stored = n) (i3, c3) all := by
  have hle := h.le
  dsimp only at hle
  by_cases hb : i + 32 ≤ 8 * zs.length
  · rw [tk_yes (by omega)] at e1
    injection e1 with e1 eL
    injection e1 with e1 e1'
    subst e1; subst e1'; subst eL
    rw [tk_yes (by omega)] at e2
    injection e2 with e2 eK
    injection e2 with e2 e2'
    subst e2; subst e2'; subst eK
    have hf := field_add (bnum zs) i 16 16
    have hL := field_lt (bnum zs) i 16
    have hK := field_lt (bnum zs) (i + 16) 16
    rw [show (16 + 16 : Nat) = 32 from rfl, show (2 : Nat) ^ 16 = 65536 from rfl] at hf
    rw [show (2 : Nat) ^ 16 = 65536 from rfl] at hL hK
    generalize field (bnum zs) i 16 = n at *
    generalize field (bnum zs) (i + 16) 16 = m at *
    have q2 : field (bnum zs) i 32 / 65536 = m := by omega
    have q1 : field (bnum zs) i 32 % 65536 = n := by omega
    have hbs : ∀ c : IC, c.st = 9 → c.lc.i = i → istep0 s zs c = (if m + n = 65535 then .inl { c with st := 10, stored := n, lc := { c.lc with i := i + 32 } } else .inr (3, { c with stored := n, lc := { c.lc with i := i + 32 } })) := by
      intro c h1 h2
      rw [istep0_9 h1]
      unfold storedHeadS
      rw [h2, if_pos hb, q2, q1]
    have h3 := ibdP_fst (i + 16 + 16, 0) (decide ((m : Int) ≠ 65535 - (n : Int)))
    rw [e3] at h3
    dsimp only at h3
    refine ⟨by omega, by omega, by omega, ?_⟩
    by_cases hg : m + n = 65535
    · rw [decide_eq_false (by omega), bdP_not] at e3
      injection e3 with e3 e3'
      subst e3; subst e3'
      exact h.go hzl rfl (by omega) _ all (fun c h1 h2 h3 h4 h5 h6 => ⟨_, (hbs c h1 h2).trans (if_pos hg), rfl, by show i + 32 = _; omega, h4, h5, h6, rfl⟩) h.len.1
    · rw [decide_eq_true (by omega), bdP_yes] at e3
      injection e3 with e3 e3'
      subst e3; subst e3'
      exact h.fail rfl (by omega) _ (by omega) 3 (by decide) (fun c h1 h2 h3 h4 h5 h6 => ⟨_, (hbs c h1 h2).trans (if_neg hg)⟩)
  · have hno : ∀ (i' : Nat), i' ≤ 8 * zs.length → IAt s zs D k cf 10 (fun c => c.last = b ∧ c.stored = n) (i', 2) all := fun i' hi' => h.fail rfl (by omega) i' hi' 2 (by decide) (fun c h1 h2 h3 h4 h5 h6 => ⟨c, by
      rw [istep0_9 h1]
      unfold storedHeadS
      rw [h2, if_neg hb]⟩)
    by_cases hb1 : i + 16 ≤ 8 * zs.length
    · rw [tk_yes hb1] at e1
      injection e1 with e1 eL
      injection e1 with e1 e1'
      have := field_lt (bnum zs) i 16
      rw [eL, show (2 : Nat) ^ 16 = 65536 from rfl] at this
      subst e1; subst e1'
      rw [tk_short (by omega)] at e2
      injection e2 with e2 eK
      injection e2 with e2 e2'
      subst e2; subst e2'; subst eK
      rw [bdP_no (show (2 : Int) ≠ 0 by decide)] at e3
      injection e3 with e3 e3'
      subst e3; subst e3'
      exact ⟨by omega, by omega, hb1, hno _ hb1⟩
    · rw [tk_short hb1] at e1
      injection e1 with e1 eL
      injection e1 with e1 e1'
      subst e1; subst e1'; subst eL
      rw [tk_two (by decide)] at e2
      injection e2 with e2 eK
      injection e2 with e2 e2'
      subst e2; subst e2'; subst eK
      rw [bdP_no (show (2 : Int) ≠ 0 by decide)] at e3
      injection e3 with e3 e3'
      subst e3; subst e3'
      exact ⟨by omega, by omega, hle, hno _ hle⟩
/-- What the model tells. -/
def tlP (D : Nat) (r : RR) (all data : List Int) : RR × List Int := if r.2 = 0 then (if 100000 < all.length - D + data.length then ((r.1, 6), all) else (r, all ++ data)) else (r, all)
/-- One byte of a stored block: the inflater takes many at once. -/
theorem at_byte {s : Nat} {zs : List Int} {D : Nat} {k : Int} {cf : IC} {b : Bool} {i n : Nat} {all : List Int} (hz : Octets zs) (hzl : zs.length ≤ 65536) (h : IAt s zs D k cf 10 (fun c => c.last = b ∧ c.stored = n + 1) (i, 0) all) {i1 x : Nat} {c1 : Int} (e1 : tk zs (i, 0) 8 = ((i1, c1), x)) {i2 : Nat} {c2 : Int} {all' : List Int} (e2 : tlP D (i1, c1) all [(x : Int)] = ((i2, c2), all')) :
    x ≤ 255 ∧ i1 ≤ 8 * zs.length ∧ IAt s zs D k cf 10 (fun c => c.last = b ∧ c.stored = n) (i2, c2) all' := by
  have hle := h.le
  dsimp only at hle
  obtain ⟨c, h1, h2, h3, h4, h5, h6, h7, h8⟩ := h.yes rfl
  dsimp only at h2
  have hal := h3.al (.inr h1)
  rw [h2] at hal
  have hstep : istep0 s zs c = storedBytesS s zs c := istep0_10 h1
  unfold storedBytesS at hstep
  rw [if_neg (by omega : ¬ c.stored = 0)] at hstep
  have hol := h3.out
  have hlen : c.out.length = all.length - D := by rw [h4, List.length_drop]
  have hD := h.len
  by_cases hb : i + 8 ≤ 8 * zs.length
  · rw [tk_yes hb] at e1
    injection e1 with e1 eL
    injection e1 with e1 e1'
    subst e1; subst e1'; subst eL
    have hby := field_byte hz i hal hb
    have hlt := field_lt (bnum zs) i 8
    rw [show (2 : Nat) ^ 8 = 256 from rfl] at hlt
    unfold tlP at e2
    rw [if_pos rfl, List.length_singleton] at e2
    refine ⟨by omega, hb, ?_⟩
    by_cases hL : 100000 < all.length - D + 1
    · rw [if_pos hL] at e2
      injection e2 with e2 e2'
      injection e2 with e2 e2''
      subst e2; subst e2'; subst e2''
      have hm : stN zs c = 1 := by unfold stN; rw [h8, h2, hlen]; omega
      rw [hm, h2, if_pos (by omega), hlen, if_pos hL] at hstep
      obtain ⟨a1, a2⟩ := h6.stop (by omega) hstep
      refine ⟨hD, hb, fun _ => ⟨a1.symm, by omega, ?_⟩, fun e => by cases e⟩
      rw [a2]
      exact h4
    · rw [if_neg hL] at e2
      injection e2 with e2 e2'
      injection e2 with e2 e2''
      subst e2; subst e2'; subst e2''
      have hd : (zs.drop (i / 8)) = ((field (bnum zs) i 8 : Nat) : Int) :: zs.drop (i / 8 + 1) := by
        have hl : i / 8 < zs.length := by omega
        rw [List.drop_eq_getElem_cons hl, hby, List.getD_eq_getElem?_getD, List.getElem?_eq_getElem hl]
        rfl
      have hM : 1 ≤ stN zs c ∧ stN zs c ≤ n + 1 ∧ stN zs c ≤ zs.length - i / 8 ∧ stN zs c ≤ 100000 - c.out.length ∧ (stN zs c = n + 1 ∨ stN zs c = zs.length - i / 8 ∨ stN zs c = 100000 - c.out.length) := by
        unfold stN
        rw [h8, h2]
        omega
      generalize hx : field (bnum zs) i 8 = x at *
      -- the state behind one byte
      have hc' : ∀ c', c' = tellC s { c with stored := n, lc := { c.lc with i := i + 8 } } [(x : Int)] → IEnds s zs c' k cf ∧ IWell zs c' := by
        rintro c' rfl
        have hW' : IWell zs (tellC s { c with stored := n, lc := { c.lc with i := i + 8 } } [(x : Int)]) := by
          refine ⟨by show c.st ≤ 16; omega, hb, ?_, fun e => ?_, fun _ => h3.rest (by omega), fun e => ?_, fun _ => ?_, fun _ => ?_, fun e _ => ?_, fun e => ?_, fun e => ?_, fun e => ?_⟩
          · show (c.out ++ [(x : Int)]).length ≤ 100000
            rw [List.length_append, List.length_singleton]; omega
          · have : c.st ≤ 6 := e; omega
          · have : c.st = 6 := e; omega
          · show (i + 8) % 8 = 0; omega
          · show n ≤ 65535; have := h3.sto h1; omega
          · have : 12 ≤ c.st := e; omega
          · have : c.st = 13 := e; omega
          · have : c.st = 14 ∨ c.st = 15 := e; omega
          · have : c.st = 15 := e; omega
        refine ⟨?_, hW'⟩
        by_cases hm1 : stN zs c = 1
        · rw [hm1, h2, if_pos (by omega), hlen, if_neg hL, hd, h8] at hstep
          exact h6.step (by omega) hstep
        · rw [h2, if_pos (by omega), if_neg (by omega), hd, h8] at hstep
          have hE := h6.step (by omega) hstep
          -- the rest by one step more
          have hst2 : istep0 s zs (tellC s { c with stored := n, lc := { c.lc with i := i + 8 } } [(x : Int)]) = _ := istep0_10 (show c.st = 10 from h1)
          unfold storedBytesS at hst2
          have hm2 : stN zs (tellC s { c with stored := n, lc := { c.lc with i := i + 8 } } [(x : Int)]) = stN zs c - 1 := by
            unfold stN
            show max 1 (min (min n (zs.length - (i + 8) / 8)) (100000 - (c.out ++ [(x : Int)]).length)) = _
            rw [List.length_append, List.length_singleton, h8, h2]
            unfold stN at hM hm1
            rw [h8, h2] at hM hm1
            omega
          rw [hm2, if_neg (by show ¬ n = 0; omega), if_pos (by show i + 8 + 8 * (stN zs c - 1) ≤ _; omega), if_neg (by show ¬ 100000 < (c.out ++ [(x : Int)]).length + _; rw [List.length_append, List.length_singleton]; omega)] at hst2
          refine .more (by show c.st ≤ 15; omega) hst2 ?_
          obtain ⟨m, hm⟩ : ∃ m, stN zs c = m + 1 := ⟨stN zs c - 1, by omega⟩
          rw [hm] at hE ⊢
          have heq : tellC s { (tellC s { c with stored := n, lc := { c.lc with i := i + 8 } } [(x : Int)]) with stored := (tellC s { c with stored := n, lc := { c.lc with i := i + 8 } } [(x : Int)]).stored - (m + 1 - 1), lc := { (tellC s { c with stored := n, lc := { c.lc with i := i + 8 } } [(x : Int)]).lc with i := (tellC s { c with stored := n, lc := { c.lc with i := i + 8 } } [(x : Int)]).lc.i + 8 * (m + 1 - 1) } } ((zs.drop ((tellC s { c with stored := n, lc := { c.lc with i := i + 8 } } [(x : Int)]).lc.i / 8)).take (m + 1 - 1)) = tellC s { c with stored := n + 1 - (m + 1), lc := { c.lc with i := i + 8 * (m + 1) } } (((x : Int) :: zs.drop (i / 8 + 1)).take (m + 1)) := by
            have d1 : (i + 8) / 8 = i / 8 + 1 := by omega
            have d2 : n - m = n + 1 - (m + 1) := by omega
            have d3 : i + 8 + 8 * m = i + 8 * (m + 1) := by omega
            unfold tellC
            simp only [Nat.add_sub_cancel, List.take_succ_cons, d1, d2, d3, List.append_assoc, List.singleton_append, lastN_lastN]
          rw [heq]
          exact hE
      obtain ⟨g1, g2⟩ := hc' _ rfl
      refine ⟨⟨by rw [List.length_append]; omega, by rw [List.length_append, List.length_singleton]; omega⟩, hb, fun e => absurd rfl e, fun _ => ⟨tellC s { c with stored := n, lc := { c.lc with i := i + 8 } } [(x : Int)], h1, rfl, g2, ?_, ?_, g1, h7, rfl⟩⟩
      · show c.out ++ [(x : Int)] = _
        rw [h4, List.drop_append_of_le_length (by omega)]
      · show lastN s (c.t ++ [(x : Int)]) = _
        rw [h5, lastN_lastN]
  · rw [tk_short hb] at e1
    injection e1 with e1 eL
    injection e1 with e1 e1'
    subst e1; subst e1'; subst eL
    unfold tlP at e2
    rw [if_neg (show ¬ (2 : Int) = 0 by decide)] at e2
    injection e2 with e2 e2'
    injection e2 with e2 e2''
    subst e2; subst e2'; subst e2''
    refine ⟨by omega, hle, ?_⟩
    have hm : stN zs c = 1 := by unfold stN; rw [h8, h2]; omega
    rw [hm, h2, if_neg (by omega)] at hstep
    obtain ⟨a1, a2⟩ := h6.stop (by omega) hstep
    refine ⟨hD, hle, fun _ => ⟨a1.symm, by omega, ?_⟩, fun e => by cases e⟩
    rw [a2]
    exact h4
/-- The stored block's end. -/
theorem at_bytes {s : Nat} {zs : List Int} {D : Nat} {k : Int} {cf : IC} {b : Bool} {r : RR} {all : List Int} (hzl : zs.length ≤ 65536) (h : IAt s zs D k cf 10 (fun c => c.last = b ∧ c.stored = 0) r all) : IAt s zs D k cf 8 (fun c => c.last = b) r all := by
  by_cases h0 : r.2 = 0
  · have := h.go (st' := 8) (P' := fun c => c.last = b) hzl h0 (by omega) r.1 all (fun c h1 h2 h3 h4 h5 h6 => ⟨{ c with st := 8 }, by rw [istep0_10 h1]; unfold storedBytesS; rw [if_pos h6.2], rfl, h2, h4, h5, h6.1⟩) h.len.1
    rw [← h0] at this
    exact this
  · exact h.off h0
end Go.Proofs.YtlfabilmilkboaaGreatDoor
