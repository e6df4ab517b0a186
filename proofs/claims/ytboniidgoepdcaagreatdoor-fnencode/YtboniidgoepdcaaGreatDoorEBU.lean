import Derived.Test.YtboniidgoepdcaaGreatDoorEBT
namespace Go.Proofs.YtboniidgoepdcaaGreatDoor
open Go.RowKit
attribute [local go_sem ↓] Go.wp_at_zero Go.wp_at_succ
set_option linter.unusedVariables false

/-- A step of the inflater. -/
def istep0 (s : Nat) (zs : List Int) (c : IC) : IC ⊕ (Int × IC) :=
  if c.st ≤ 5 then
    match lstep0 zs c.lc with
    | .inl l => .inl { c with st := l.st, lc := l }
    | .inr x => .inr (x.1, { c with st := x.2.st, lc := x.2 })
  else if c.st = 6 then dynamicCodesS c else if c.st = 7 then blockHeadS zs c else if c.st = 8 then blockEndS c else if c.st = 9 then storedHeadS zs c else if c.st = 10 then storedBytesS s zs c
  else if c.st = 11 then fixedCodesS c else if c.st = 12 then literalS s zs c else if c.st = 13 then copyLengthS zs c else if c.st = 14 then distanceS zs c else copyDistanceS s zs c
/-- What the inflater's numbers keep to. -/
structure IWell (zs : List Int) (c : IC) : Prop where
  s16 : c.st ≤ 16
  le : c.lc.i ≤ 8 * zs.length
  out : c.out.length ≤ 100000
  lens : c.st ≤ 6 → LWell c.lc ∧ c.lc.st = c.st
  rest : 7 ≤ c.st → c.lc.st = 0
  full : c.st = 6 → (c.lc.lens.length : Int) = c.lc.f 2 + c.lc.f 3
  al : c.st = 9 ∨ c.st = 10 → c.lc.i % 8 = 0
  sto : c.st = 10 → c.stored ≤ 65535
  use : 12 ≤ c.st → c.st ≤ 15 → c.ul.length ≤ 320 ∧ c.ud.length ≤ 320
  cl : c.st = 13 → 3 ≤ c.base ∧ c.base + 2 ^ c.extra ≤ 259 ∧ c.extra ≤ 5
  ln : c.st = 14 ∨ c.st = 15 → 3 ≤ c.len ∧ c.len ≤ 258
  cd : c.st = 15 → 1 ≤ c.base ∧ c.base + 2 ^ c.extra ≤ 32769 ∧ c.extra ≤ 13
theorem addS_st {c cf : LC} {v k : Int} {t : Nat} (hs : addS c v t = .inr (k, cf)) : cf.st = c.st := by
  unfold addS at hs
  repeat' (split at hs)
  all_goals first | (cases hs; done) | (injection hs with e; injection e with e1 e2; rw [← e2])
theorem lstep0_st {zs : List Int} {c cf : LC} {k : Int} (hs : lstep0 zs c = .inr (k, cf)) : cf.st = c.st := by
  unfold lstep0 at hs
  split at hs
  · unfold litCountS at hs
    repeat' (split at hs)
    all_goals first | (cases hs; done) | (injection hs with e; injection e with e1 e2; rw [← e2])
  · split at hs
    · unfold distCountS at hs
      repeat' (split at hs)
      all_goals first | (cases hs; done) | (injection hs with e; injection e with e1 e2; rw [← e2])
    · split at hs
      · unfold codeCountS at hs
        repeat' (split at hs)
        all_goals first | (cases hs; done) | (injection hs with e; injection e with e1 e2; rw [← e2])
      · split at hs
        · unfold codeLenS at hs
          repeat' (split at hs)
          all_goals first | (cases hs; done) | (injection hs with e; injection e with e1 e2; rw [← e2])
        · split at hs
          · unfold nextLenS at hs
            repeat' (split at hs)
            all_goals first | (have := addS_st hs; exact this) | (cases hs; done) | (injection hs with e; injection e with e1 e2; rw [← e2])
          · unfold repeatS at hs
            repeat' (split at hs)
            all_goals first | (have := addS_st hs; exact this) | (cases hs; done) | (injection hs with e; injection e with e1 e2; rw [← e2])
set_option maxRecDepth 100000 in
theorem ifn_le (s : Nat) (h : s ≤ 5) : ifn s = lfn s := by unfold ifn; rw [if_pos h]
/-- Every state in one contract. -/
theorem istate_any (q p hB g s B : Nat) (zs : List Int) (aft : Value) (c : IC) (w : World) (hM : IMem q p hB g s B zs aft w c) (hW : IWell zs c) (h15 : c.st ≤ 15) (hz : Octets zs) (hzl : zs.length ≤ 65536) :
    Calls Tryz.prog (ifn c.st) #[.pointer (some ⟨q, 0, none⟩)] w fun e w' => IPost q p hB g s B zs aft (istep0 s zs c) e w w' := by
  by_cases h5 : c.st ≤ 5
  · obtain ⟨hL, hst⟩ := hW.lens (by omega)
    rw [ifn_le _ h5, ← hst]
    refine Calls.mono (lstate_any q p hB zs (inow q aft 6) c.lc w hM.lm hL (by omega) hz hzl) ?_
    rintro e w' ⟨hy, hn⟩
    obtain ⟨bs1, bs2, bs3, bs4⟩ := hM.bs
    unfold istep0
    rw [if_pos h5]
    cases hs : lstep0 zs c.lc with
    | inl l =>
      obtain ⟨rfl, h1, h2⟩ := hy l hs
      have hl := lstep0_well hL (by omega) hs
      have h6 := hl.s6
      refine IPost.ok ?_ (hM.trod h2 h1 l.st (by omega) ⟨fun _ => rfl, fun h => by omega⟩) (h2.toBelow hM.lm bs2 bs3)
      show lnow q (inow q aft 6) l.st = inow q aft l.st
      unfold lnow inow
      by_cases h : l.st ≤ 5
      · rw [if_pos h, if_pos (by omega), ifn_le _ h]
      · have e6 : l.st = 6 := by omega
        rw [if_neg h, e6]
    | inr x =>
      obtain ⟨k, cf⟩ := x
      obtain ⟨v, rfl, h1, h2⟩ := hn k cf hs
      have e := lstep0_st hs
      exact IPost.no (hM.trod h2 h1 cf.st (by omega) ⟨fun _ => rfl, fun h => by omega⟩) (h2.toBelow hM.lm bs2 bs3)
  · unfold istep0
    rw [if_neg h5]
    by_cases h6 : c.st = 6
    · rw [if_pos h6, h6]
      exact dynamicCodes_any q p hB g s B zs aft c w hM h6 (hW.lens (by omega)).1 (hW.full h6)
    rw [if_neg h6]
    by_cases h7 : c.st = 7
    · rw [if_pos h7, h7]
      exact blockHead_any q p hB g s B zs aft c w hM h7 hz hzl
    rw [if_neg h7]
    by_cases h8 : c.st = 8
    · rw [if_pos h8, h8]
      exact blockEnd_any q p hB g s B zs aft c w hM h8
    rw [if_neg h8]
    by_cases h9 : c.st = 9
    · rw [if_pos h9, h9]
      exact storedHead_any q p hB g s B zs aft c w hM h9 hz hzl
    rw [if_neg h9]
    by_cases h10 : c.st = 10
    · rw [if_pos h10, h10]
      exact storedBytes_any q p hB g s B zs aft c w hM h10 (hW.al (.inr h10)) (hW.sto h10) hW.out hz hzl
    rw [if_neg h10]
    by_cases h11 : c.st = 11
    · rw [if_pos h11, h11]
      exact fixedCodes_any q p hB g s B zs aft c w hM h11
    rw [if_neg h11]
    by_cases h12 : c.st = 12
    · rw [if_pos h12, h12]
      exact literal_any q p hB g s B zs aft c w hM h12 hW.out (hW.use (by omega) (by omega)).1 hz hzl
    rw [if_neg h12]
    by_cases h13 : c.st = 13
    · rw [if_pos h13, h13]
      have h := hW.cl h13
      have h2 : 0 < 2 ^ c.extra := Nat.pos_of_ne_zero (by simp)
      exact copyLength_any q p hB g s B zs aft c w hM h13 (by omega) (by omega) hz hzl
    rw [if_neg h13]
    by_cases h14 : c.st = 14
    · rw [if_pos h14, h14]
      exact distance_any q p hB g s B zs aft c w hM h14 (hW.use (by omega) (by omega)).2 hz hzl
    rw [if_neg h14]
    have h15' : c.st = 15 := by omega
    rw [h15']
    have h := hW.cd h15'
    have hl := hW.ln (.inr h15')
    have h2 : 0 < 2 ^ c.extra := Nat.pos_of_ne_zero (by simp)
    exact copyDistance_any q p hB g s B zs aft c w hM h15' hW.out (by omega) (by omega) (by omega) (by omega) (by omega) hz hzl
end Go.Proofs.YtboniidgoepdcaaGreatDoor
namespace Go.Proofs.YtboniidgoepdcaaGreatDoor
open Go.RowKit
attribute [local go_sem ↓] Go.wp_at_zero Go.wp_at_succ
set_option linter.unusedVariables false

theorem nx3_pos {ls : List Int} {b n : Nat} (h : (nx3 ls b n).1 = 1) : 1 ≤ (nx3 ls b n).2.2 := by
  have h2 := nx3_is ls b n
  rw [h] at h2
  unfold AnsN at h2
  split at h2
  · rcases h2 with ⟨i, h3, _, _, _, h4⟩ | ⟨i, _, _, h3, _⟩ | ⟨_, h3, _⟩
    · rw [h4]; exact h3.1.pos
    · omega
    · omega
  · omega
theorem lstep0_more {zs : List Int} {c c' : LC} (h5 : c.st ≤ 5) (hw : LWell c) (hs : lstep0 zs c = .inl c') : c.i < c'.i := by
  unfold lstep0 at hs
  split at hs
  · unfold litCountS at hs
    repeat' (split at hs)
    all_goals first | (cases hs; done) | (injection hs with hs; subst hs; dsimp only; omega)
  · split at hs
    · unfold distCountS at hs
      repeat' (split at hs)
      all_goals first | (cases hs; done) | (injection hs with hs; subst hs; dsimp only; omega)
    · split at hs
      · unfold codeCountS at hs
        repeat' (split at hs)
        all_goals first | (cases hs; done) | (injection hs with hs; subst hs; dsimp only; omega)
      · split at hs
        · unfold codeLenS at hs
          repeat' (split at hs)
          all_goals first | (cases hs; done) | (injection hs with hs; subst hs; dsimp only; omega)
        · split at hs
          · generalize Nat.min (8 * zs.length - c.i) 15 = n at *
            unfold nextLenS at hs
            split at hs
            · rename_i h1
              have h2 := nx3_pos h1
              repeat' (split at hs)
              all_goals first | (have := addS_i hs; dsimp only at this; omega) | (cases hs; done) | (injection hs with hs; subst hs; dsimp only; omega)
            · split at hs <;> cases hs
          · have hx : 2 ≤ repX c := by
              unfold repX
              repeat' split
              all_goals omega
            unfold repeatS at hs
            repeat' (split at hs)
            all_goals first | (have := addS_i hs; dsimp only at this; omega) | (cases hs; done) | (injection hs with hs; subst hs; dsimp only; omega)
/-- How far the inflater is from its end. -/
def irk (n : Nat) : Nat := if n = 6 ∨ n = 11 then 8 else if n = 10 then 6 else if n = 8 then 5 else if n = 13 then 4 else if n = 14 ∨ n = 15 then 3 else if n = 12 then 2 else if n = 16 then 0 else 1
def imu (zs : List Int) (c : IC) : Nat := 16 * (8 * zs.length - c.lc.i) + irk c.st
theorem irk_le (n : Nat) : irk n ≤ 8 := by
  unfold irk
  repeat' split
  all_goals omega
theorem imu_on {zs : List Int} {c c' : IC} (h : c.lc.i < c'.lc.i) (h' : c'.lc.i ≤ 8 * zs.length) : imu zs c' < imu zs c := by
  unfold imu
  have := irk_le c'.st
  omega
theorem imu_st {zs : List Int} {c c' : IC} (h : c.lc.i ≤ c'.lc.i) (hr : irk c'.st < irk c.st) : imu zs c' < imu zs c := by
  unfold imu
  omega
theorem lens_use {c : LC} (h : LWell c) (h6 : c.st = 6) (hf : (c.lens.length : Int) = c.f 2 + c.f 3) : (c.lens.take (c.f 2).toNat).length ≤ 320 ∧ (c.lens.drop (c.f 2).toNat).length ≤ 320 := by
  have h1 := h.lit (by omega)
  have h2 := h.dist (by omega)
  rw [List.length_take, List.length_drop]
  constructor <;> omega
/-- Each step keeps the numbers well, and brings the end nearer. -/
theorem istep0_ok {s : Nat} {zs : List Int} {c c' : IC} (hW : IWell zs c) (h15 : c.st ≤ 15) (hzl : zs.length ≤ 65536) (hs : istep0 s zs c = .inl c') : IWell zs c' ∧ imu zs c' < imu zs c := by
  have hle := hW.le
  have hou := hW.out
  unfold istep0 at hs
  by_cases h5 : c.st ≤ 5
  · rw [if_pos h5] at hs
    obtain ⟨hL, hst⟩ := hW.lens (by omega)
    cases hl : lstep0 zs c.lc with
    | inr x => rw [hl] at hs; cases hs
    | inl l =>
      rw [hl] at hs
      injection hs with hs
      subst hs
      have hw := lstep0_well hL (by omega) hl
      have h6 := hw.s6
      have hi := lstep0_i (by omega) hle hl
      have hm := lstep0_more (by omega) hL hl
      refine ⟨⟨by show l.st ≤ 16; omega, hi, hou, fun _ => ⟨hw, rfl⟩, fun h => ?_, fun h => lstep0_six (by omega) hl h, fun h => ?_, fun h => ?_, fun h _ => ?_, fun h => ?_, fun h => ?_, fun h => ?_⟩, imu_on hm hi⟩
      all_goals (dsimp only at h; omega)
  rw [if_neg h5] at hs
  by_cases h6 : c.st = 6
  · rw [if_pos h6] at hs
    unfold dynamicCodesS at hs
    injection hs with hs
    subst hs
    have hu := lens_use (hW.lens (by omega)).1 (by rw [(hW.lens (by omega)).2]; exact h6) (hW.full h6)
    refine ⟨⟨by show 12 ≤ 16; omega, hle, hou, fun h => ?_, fun _ => rfl, fun h => ?_, fun h => ?_, fun h => ?_, fun _ _ => hu, fun h => ?_, fun h => ?_, fun h => ?_⟩, imu_st (Nat.le_refl _) (by rw [h6]; show irk 12 < irk 6; decide)⟩
    all_goals (dsimp only at h; omega)
  rw [if_neg h6] at hs
  have hr0 := hW.rest (by omega)
  by_cases h7 : c.st = 7
  · rw [if_pos h7] at hs
    unfold blockHeadS at hs
    split at hs
    · split at hs
      · injection hs with hs
        subst hs
        refine ⟨⟨by show 9 ≤ 16; omega, by show (c.lc.i + 3 + 7) / 8 * 8 ≤ _; omega, hou, fun h => ?_, fun _ => hr0, fun h => ?_, fun _ => by show (c.lc.i + 3 + 7) / 8 * 8 % 8 = 0; omega, fun h => ?_, fun h _ => ?_, fun h => ?_, fun h => ?_, fun h => ?_⟩, imu_on (by show c.lc.i < (c.lc.i + 3 + 7) / 8 * 8; omega) (by show (c.lc.i + 3 + 7) / 8 * 8 ≤ _; omega)⟩
        all_goals (dsimp only at h; omega)
      · split at hs
        · injection hs with hs
          subst hs
          refine ⟨⟨by show 11 ≤ 16; omega, by show c.lc.i + 3 ≤ _; omega, hou, fun h => ?_, fun _ => hr0, fun h => ?_, fun h => ?_, fun h => ?_, fun h _ => ?_, fun h => ?_, fun h => ?_, fun h => ?_⟩, imu_on (by show c.lc.i < c.lc.i + 3; omega) (by show c.lc.i + 3 ≤ _; omega)⟩
          all_goals (dsimp only at h; omega)
        · split at hs
          · injection hs with hs
            subst hs
            refine ⟨⟨by show 0 ≤ 16; omega, by show c.lc.i + 3 ≤ _; omega, hou, fun _ => ⟨LWell.none _ hr0, hr0⟩, fun h => ?_, fun h => ?_, fun h => ?_, fun h => ?_, fun h _ => ?_, fun h => ?_, fun h => ?_, fun h => ?_⟩, imu_on (by show c.lc.i < c.lc.i + 3; omega) (by show c.lc.i + 3 ≤ _; omega)⟩
            all_goals (dsimp only at h; omega)
          · cases hs
    · cases hs
  rw [if_neg h7] at hs
  by_cases h8 : c.st = 8
  · rw [if_pos h8] at hs
    unfold blockEndS at hs
    split at hs
    · injection hs with hs
      subst hs
      refine ⟨⟨by show 16 ≤ 16; omega, hle, hou, fun h => ?_, fun _ => hr0, fun h => ?_, fun h => ?_, fun h => ?_, fun _ h => ?_, fun h => ?_, fun h => ?_, fun h => ?_⟩, imu_st (Nat.le_refl _) (by rw [h8]; show irk 16 < irk 8; decide)⟩
      all_goals (dsimp only at h; omega)
    · injection hs with hs
      subst hs
      refine ⟨⟨by show 7 ≤ 16; omega, hle, hou, fun h => ?_, fun _ => hr0, fun h => ?_, fun h => ?_, fun h => ?_, fun h _ => ?_, fun h => ?_, fun h => ?_, fun h => ?_⟩, imu_st (Nat.le_refl _) (by rw [h8]; show irk 7 < irk 8; decide)⟩
      all_goals (dsimp only at h; omega)
  rw [if_neg h8] at hs
  by_cases h9 : c.st = 9
  · rw [if_pos h9] at hs
    have ha := hW.al (.inl h9)
    unfold storedHeadS at hs
    split at hs
    · split at hs
      · injection hs with hs
        subst hs
        refine ⟨⟨by show 10 ≤ 16; omega, by show c.lc.i + 32 ≤ _; omega, hou, fun h => ?_, fun _ => hr0, fun h => ?_, fun _ => by show (c.lc.i + 32) % 8 = 0; omega, fun _ => by show _ % 65536 ≤ 65535; omega, fun h _ => ?_, fun h => ?_, fun h => ?_, fun h => ?_⟩, imu_on (by show c.lc.i < c.lc.i + 32; omega) (by show c.lc.i + 32 ≤ _; omega)⟩
        all_goals (dsimp only at h; omega)
      · cases hs
    · cases hs
  rw [if_neg h9] at hs
  by_cases h10 : c.st = 10
  · rw [if_pos h10] at hs
    have ha := hW.al (.inr h10)
    have hst := hW.sto h10
    unfold storedBytesS at hs
    split at hs
    · injection hs with hs
      subst hs
      refine ⟨⟨by show 8 ≤ 16; omega, hle, hou, fun h => ?_, fun _ => hr0, fun h => ?_, fun h => ?_, fun h => ?_, fun h _ => ?_, fun h => ?_, fun h => ?_, fun h => ?_⟩, imu_st (Nat.le_refl _) (by rw [h10]; show irk 8 < irk 10; decide)⟩
      all_goals (dsimp only at h; omega)
    · have hn1 : 1 ≤ stN zs c := by unfold stN; omega
      generalize hm : stN zs c = m at *
      split at hs
      · split at hs
        · cases hs
        · injection hs with hs
          subst hs
          have hl : (c.out ++ (zs.drop (c.lc.i / 8)).take m).length ≤ 100000 := by rw [List.length_append, List.length_take]; omega
          refine ⟨⟨by show c.st ≤ 16; omega, by show c.lc.i + 8 * m ≤ _; omega, hl, fun h => ?_, fun _ => hr0, fun h => ?_, fun _ => by show (c.lc.i + 8 * m) % 8 = 0; omega, fun _ => by show c.stored - m ≤ 65535; omega, fun h _ => ?_, fun h => ?_, fun h => ?_, fun h => ?_⟩, imu_on (by show c.lc.i < c.lc.i + 8 * m; omega) (by show c.lc.i + 8 * m ≤ _; omega)⟩
          all_goals (have h' := h; unfold tellC at h'; dsimp only at h'; omega)
      · cases hs
  rw [if_neg h10] at hs
  by_cases h11 : c.st = 11
  · rw [if_pos h11] at hs
    unfold fixedCodesS at hs
    injection hs with hs
    subst hs
    refine ⟨⟨by show 12 ≤ 16; omega, hle, hou, fun h => ?_, fun _ => hr0, fun h => ?_, fun h => ?_, fun h => ?_, fun _ _ => ⟨by show F288.length ≤ 320; rw [F288_len]; omega, by show F32.length ≤ 320; decide⟩, fun h => ?_, fun h => ?_, fun h => ?_⟩, imu_st (Nat.le_refl _) (by rw [h11]; show irk 12 < irk 11; decide)⟩
    all_goals (dsimp only at h; omega)
  rw [if_neg h11] at hs
  have hu := hW.use (by omega) h15
  by_cases h12 : c.st = 12
  · rw [if_pos h12] at hs
    unfold literalS at hs
    have hm : Nat.min (8 * zs.length - c.lc.i) 15 ≤ 8 * zs.length - c.lc.i := Nat.min_le_left _ _
    generalize Nat.min (8 * zs.length - c.lc.i) 15 = n at *
    have hsy := nx3_sym (ls := c.ul) (b := field (bnum zs) c.lc.i n) (n := n)
    have hpo := nx3_pos (ls := c.ul) (b := field (bnum zs) c.lc.i n) (n := n)
    generalize nx3 c.ul (field (bnum zs) c.lc.i n) n = x at *
    obtain ⟨k, s', l⟩ := x
    dsimp only at hs hsy hpo
    split at hs
    · rename_i hk
      have hl := (hsy hk).2
      have hp := hpo hk
      split at hs
      · split at hs
        · cases hs
        · injection hs with hs
          subst hs
          have hl2 : (c.out ++ [(s' : Int)]).length ≤ 100000 := by rw [List.length_append]; show _ + 1 ≤ _; omega
          refine ⟨⟨by show c.st ≤ 16; omega, by show c.lc.i + l ≤ _; omega, hl2, fun h => ?_, fun _ => hr0, fun h => ?_, fun h => ?_, fun h => ?_, fun _ _ => hu, fun h => ?_, fun h => ?_, fun h => ?_⟩, imu_on (by show c.lc.i < c.lc.i + l; omega) (by show c.lc.i + l ≤ _; omega)⟩
          all_goals (have h' := h; unfold tellC at h'; dsimp only at h'; omega)
      · split at hs
        · injection hs with hs
          subst hs
          refine ⟨⟨by show 8 ≤ 16; omega, by show c.lc.i + l ≤ _; omega, hou, fun h => ?_, fun _ => hr0, fun h => ?_, fun h => ?_, fun h => ?_, fun h _ => ?_, fun h => ?_, fun h => ?_, fun h => ?_⟩, imu_on (by show c.lc.i < c.lc.i + l; omega) (by show c.lc.i + l ≤ _; omega)⟩
          all_goals (dsimp only at h; omega)
        · split at hs
          · cases hs
          · injection hs with hs
            subst hs
            refine ⟨⟨by show 13 ≤ 16; omega, by show c.lc.i + l ≤ _; omega, hou, fun h => ?_, fun _ => hr0, fun h => ?_, fun h => ?_, fun h => ?_, fun _ _ => hu, fun _ => lenR_le s' (by omega) (by omega), fun h => ?_, fun h => ?_⟩, imu_on (by show c.lc.i < c.lc.i + l; omega) (by show c.lc.i + l ≤ _; omega)⟩
            all_goals (dsimp only at h; omega)
    · split at hs <;> cases hs
  rw [if_neg h12] at hs
  by_cases h13 : c.st = 13
  · rw [if_pos h13] at hs
    obtain ⟨b1, b2, b3⟩ := hW.cl h13
    unfold copyLengthS at hs
    split at hs
    · injection hs with hs
      subst hs
      have hF := field_lt (bnum zs) c.lc.i c.extra
      refine ⟨⟨by show 14 ≤ 16; omega, by show c.lc.i + c.extra ≤ _; omega, hou, fun h => ?_, fun _ => hr0, fun h => ?_, fun h => ?_, fun h => ?_, fun _ _ => hu, fun h => ?_, fun _ => ⟨by show 3 ≤ c.base + _; omega, by show c.base + field (bnum zs) c.lc.i c.extra ≤ 258; omega⟩, fun h => ?_⟩, imu_st (by show c.lc.i ≤ c.lc.i + c.extra; omega) (by rw [h13]; show irk 14 < irk 13; decide)⟩
      all_goals (dsimp only at h; omega)
    · cases hs
  rw [if_neg h13] at hs
  have hln := hW.ln (by omega)
  by_cases h14 : c.st = 14
  · rw [if_pos h14] at hs
    unfold distanceS at hs
    have hm : Nat.min (8 * zs.length - c.lc.i) 15 ≤ 8 * zs.length - c.lc.i := Nat.min_le_left _ _
    generalize Nat.min (8 * zs.length - c.lc.i) 15 = n at *
    have hsy := nx3_sym (ls := c.ud) (b := field (bnum zs) c.lc.i n) (n := n)
    have hpo := nx3_pos (ls := c.ud) (b := field (bnum zs) c.lc.i n) (n := n)
    generalize nx3 c.ud (field (bnum zs) c.lc.i n) n = x at *
    obtain ⟨k, s', l⟩ := x
    dsimp only at hs hsy hpo
    split at hs
    · rename_i hk
      have hl := (hsy hk).2
      have hp := hpo hk
      split at hs
      · cases hs
      · injection hs with hs
        subst hs
        refine ⟨⟨by show 15 ≤ 16; omega, by show c.lc.i + l ≤ _; omega, hou, fun h => ?_, fun _ => hr0, fun h => ?_, fun h => ?_, fun h => ?_, fun _ _ => hu, fun h => ?_, fun _ => hln, fun _ => distR_le s' (by omega)⟩, imu_on (by show c.lc.i < c.lc.i + l; omega) (by show c.lc.i + l ≤ _; omega)⟩
        all_goals (dsimp only at h; omega)
    · split at hs <;> cases hs
  rw [if_neg h14] at hs
  have h15' : c.st = 15 := by omega
  unfold copyDistanceS at hs
  split at hs
  · split at hs
    · cases hs
    · split at hs
      · cases hs
      · injection hs with hs
        subst hs
        have hl2 : (c.out ++ dataN c.t (c.base + field (bnum zs) c.lc.i c.extra) c.len).length ≤ 100000 := by rw [List.length_append, dataN_len]; omega
        refine ⟨⟨by show 12 ≤ 16; omega, by show c.lc.i + c.extra ≤ _; omega, hl2, fun h => ?_, fun _ => hr0, fun h => ?_, fun h => ?_, fun h => ?_, fun _ _ => hu, fun h => ?_, fun h => ?_, fun h => ?_⟩, imu_st (by show c.lc.i ≤ c.lc.i + c.extra; omega) (by rw [h15']; show irk 12 < irk 15; decide)⟩
        all_goals (have h' := h; unfold copyC at h'; dsimp only at h'; omega)
  · cases hs
end Go.Proofs.YtboniidgoepdcaaGreatDoor
