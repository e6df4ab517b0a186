import Derived.Test.YtbddkkfakkedaaaGreatDoorMBG
import Derived.Test.YtbddkkfakkedaaaGreatDoorMBP
namespace Go.Proofs.YtbddkkfakkedaaaGreatDoor
open Go.RowKit
variable {KH : Nat → Option Obj}
attribute [local go_sem ↓] Go.wp_at_zero Go.wp_at_succ
set_option linter.unusedVariables false

/-- A step of the inflater. -/
def istep0 (s : Nat) (zs : List Int) (c : IC) : IC ⊕ (Int × IC) :=
  if c.st ≤ 5 then
    match lstep0 zs c.lc with
    | .inl l => .inl { c with st := l.st, lc := l }
    | .inr x => .inr (x.1, { c with st := x.2.st, lc := x.2 })
  else if c.st = 6 then dynamicCodesS c else if c.st = 7 then blockHeadS zs c else if c.st = 8 then blockEndS c else if c.st = 9 then storedHeadS zs c else if c.st = 10 then storedBytesS s zs c
  else if c.st = 11 then fixedCodesS c else if c.st = 12 then literalS s zs c else if c.st = 13 then copyLengthS zs c else if c.st = 14 then distanceS zs c else copyDistanceS s zs c
/-- What the inflater's numbers keep to. -/
structure IWell (zs : List Int) (c : IC) : Prop where
  s16 : c.st ≤ 16
  le : c.lc.i ≤ 8 * zs.length
  out : c.out.length ≤ 100000
  lens : c.st ≤ 6 → LWell c.lc ∧ c.lc.st = c.st
  rest : 7 ≤ c.st → c.lc.st = 0
  full : c.st = 6 → (c.lc.lens.length : Int) = c.lc.f 2 + c.lc.f 3
  al : c.st = 9 ∨ c.st = 10 → c.lc.i % 8 = 0
  sto : c.st = 10 → c.stored ≤ 65535
  use : 12 ≤ c.st → c.st ≤ 15 → c.ul.length ≤ 320 ∧ c.ud.length ≤ 320
  cl : c.st = 13 → 3 ≤ c.base ∧ c.base + 2 ^ c.extra ≤ 259 ∧ c.extra ≤ 5
  ln : c.st = 14 ∨ c.st = 15 → 3 ≤ c.len ∧ c.len ≤ 258
  cd : c.st = 15 → 1 ≤ c.base ∧ c.base + 2 ^ c.extra ≤ 32769 ∧ c.extra ≤ 13
theorem addS_st {c cf : LC} {v k : Int} {t : Nat} (hs : addS c v t = .inr (k, cf)) : cf.st = c.st := by
  unfold addS at hs
  repeat' (split at hs)
  all_goals first | (cases hs; done) | (injection hs with e; injection e with e1 e2; rw [← e2])
theorem lstep0_st {zs : List Int} {c cf : LC} {k : Int} (hs : lstep0 zs c = .inr (k, cf)) : cf.st = c.st := by
  unfold lstep0 at hs
  split at hs
  · unfold litCountS at hs
    repeat' (split at hs)
    all_goals first | (cases hs; done) | (injection hs with e; injection e with e1 e2; rw [← e2])
  · split at hs
    · unfold distCountS at hs
      repeat' (split at hs)
      all_goals first | (cases hs; done) | (injection hs with e; injection e with e1 e2; rw [← e2])
    · split at hs
      · unfold codeCountS at hs
        repeat' (split at hs)
        all_goals first | (cases hs; done) | (injection hs with e; injection e with e1 e2; rw [← e2])
      · split at hs
        · unfold codeLenS at hs
          repeat' (split at hs)
          all_goals first | (cases hs; done) | (injection hs with e; injection e with e1 e2; rw [← e2])
        · split at hs
          · unfold nextLenS at hs
            repeat' (split at hs)
            all_goals first | (have := addS_st hs; exact this) | (cases hs; done) | (injection hs with e; injection e with e1 e2; rw [← e2])
          · unfold repeatS at hs
            repeat' (split at hs)
            all_goals first | (have := addS_st hs; exact this) | (cases hs; done) | (injection hs with e; injection e with e1 e2; rw [← e2])
set_option maxRecDepth 100000 in
theorem ifn_le (s : Nat) (h : s ≤ 5) : ifn s = lfn s := by unfold ifn; rw [if_pos h]
/-- Every state in one contract. -/
theorem istate_any (q p hB g s B : Nat) (zs : List Int) (aft : Value) (c : IC) (w : World) (hM : IMem KH q p hB g s B zs aft w c) (hW : IWell zs c) (h15 : c.st ≤ 15) (hz : Octets zs) (hzl : zs.length ≤ 65536) :
    Calls Tryz.prog (ifn c.st) #[.pointer (some ⟨q, 0, none⟩)] w fun e w' => IPost KH q p hB g s B zs aft (istep0 s zs c) e w w' := by
  by_cases h5 : c.st ≤ 5
  · obtain ⟨hL, hst⟩ := hW.lens (by omega)
    rw [ifn_le _ h5, ← hst]
    refine Calls.mono (lstate_any q p hB zs (inow q aft 6) c.lc w hM.lm hL (by omega) hz hzl) ?_
    rintro e w' ⟨hy, hn⟩
    obtain ⟨bs1, bs2, bs3, bs4⟩ := hM.bs
    unfold istep0
    rw [if_pos h5]
    cases hs : lstep0 zs c.lc with
    | inl l =>
      obtain ⟨rfl, h1, h2⟩ := hy l hs
      have hl := lstep0_well hL (by omega) hs
      have h6 := hl.s6
      refine IPost.ok ?_ (hM.trod h2 h1 l.st (by omega) ⟨fun _ => rfl, fun h => by omega⟩) (h2.toBelow hM.lm bs2 bs3)
      show lnow q (inow q aft 6) l.st = inow q aft l.st
      unfold lnow inow
      by_cases h : l.st ≤ 5
      · rw [if_pos h, if_pos (by omega), ifn_le _ h]
      · have e6 : l.st = 6 := by omega
        rw [if_neg h, e6]
    | inr x =>
      obtain ⟨k, cf⟩ := x
      obtain ⟨v, rfl, h1, h2⟩ := hn k cf hs
      have e := lstep0_st hs
      exact IPost.no (hM.trod h2 h1 cf.st (by omega) ⟨fun _ => rfl, fun h => by omega⟩) (h2.toBelow hM.lm bs2 bs3)
  · unfold istep0
    rw [if_neg h5]
    by_cases h6 : c.st = 6
    · rw [if_pos h6, h6]
      exact dynamicCodes_any q p hB g s B zs aft c w hM h6 (hW.lens (by omega)).1 (hW.full h6)
    rw [if_neg h6]
    by_cases h7 : c.st = 7
    · rw [if_pos h7, h7]
      exact blockHead_any q p hB g s B zs aft c w hM h7 hz hzl
    rw [if_neg h7]
    by_cases h8 : c.st = 8
    · rw [if_pos h8, h8]
      exact blockEnd_any q p hB g s B zs aft c w hM h8
    rw [if_neg h8]
    by_cases h9 : c.st = 9
    · rw [if_pos h9, h9]
      exact storedHead_any q p hB g s B zs aft c w hM h9 hz hzl
    rw [if_neg h9]
    by_cases h10 : c.st = 10
    · rw [if_pos h10, h10]
      exact storedBytes_any q p hB g s B zs aft c w hM h10 (hW.al (.inr h10)) (hW.sto h10) hW.out hz hzl
    rw [if_neg h10]
    by_cases h11 : c.st = 11
    · rw [if_pos h11, h11]
      exact fixedCodes_any q p hB g s B zs aft c w hM h11
    rw [if_neg h11]
    by_cases h12 : c.st = 12
    · rw [if_pos h12, h12]
      exact literal_any q p hB g s B zs aft c w hM h12 hW.out (hW.use (by omega) (by omega)).1 hz hzl
    rw [if_neg h12]
    by_cases h13 : c.st = 13
    · rw [if_pos h13, h13]
      have h := hW.cl h13
      have h2 : 0 < 2 ^ c.extra := Nat.pos_of_ne_zero (by simp)
      exact copyLength_any q p hB g s B zs aft c w hM h13 (by omega) (by omega) hz hzl
    rw [if_neg h13]
    by_cases h14 : c.st = 14
    · rw [if_pos h14, h14]
      exact distance_any q p hB g s B zs aft c w hM h14 (hW.use (by omega) (by omega)).2 hz hzl
    rw [if_neg h14]
    have h15' : c.st = 15 := by omega
    rw [h15']
    have h := hW.cd h15'
    have hl := hW.ln (.inr h15')
    have h2 : 0 < 2 ^ c.extra := Nat.pos_of_ne_zero (by simp)
    exact copyDistance_any q p hB g s B zs aft c w hM h15' hW.out (by omega) (by omega) (by omega) (by omega) (by omega) hz hzl
end Go.Proofs.YtbddkkfakkedaaaGreatDoor
namespace Go.Proofs.YtbddkkfakkedaaaGreatDoor
open Go.RowKit
attribute [local go_sem ↓] Go.wp_at_zero Go.wp_at_succ
set_option linter.unusedVariables false

theorem nx3_pos {ls : List Int} {b n : Nat} (h : (nx3 ls b n).1 = 1) : 1 ≤ (nx3 ls b n).2.2 := by
  have h2 := nx3_is ls b n
  rw [h] at h2
  unfold AnsN at h2
  split at h2
  · rcases h2 with ⟨i, h3, _, _, _, h4⟩ | ⟨i, _, _, h3, _⟩ | ⟨_, h3, _⟩
    · rw [h4]; exact h3.1.pos
    · omega
    · omega
  · omega
theorem lstep0_more {zs : List Int} {c c' : LC} (h5 : c.st ≤ 5) (hw : LWell c) (hs : lstep0 zs c = .inl c') : c.i < c'.i := by
  unfold lstep0 at hs
  split at hs
  · unfold litCountS at hs
    repeat' (split at hs)
    all_goals first | (cases hs; done) | (injection hs with hs; subst hs; dsimp only; omega)
  · split at hs
    · unfold distCountS at hs
      repeat' (split at hs)
      all_goals first | (cases hs; done) | (injection hs with hs; subst hs; dsimp only; omega)
    · split at hs
      · unfold codeCountS at hs
        repeat' (split at hs)
        all_goals first | (cases hs; done) | (injection hs with hs; subst hs; dsimp only; omega)
      · split at hs
        · unfold codeLenS at hs
          repeat' (split at hs)
          all_goals first | (cases hs; done) | (injection hs with hs; subst hs; dsimp only; omega)
        · split at hs
          · generalize Nat.min (8 * zs.length - c.i) 15 = n at *
            unfold nextLenS at hs
            split at hs
            · rename_i h1
              have h2 := nx3_pos h1
              repeat' (split at hs)
              all_goals first | (have := addS_i hs; dsimp only at this; omega) | (cases hs; done) | (injection hs with hs; subst hs; dsimp only; omega)
            · split at hs <;> cases hs
          · have hx : 2 ≤ repX c := by
              unfold repX
              repeat' split
              all_goals omega
            unfold repeatS at hs
            repeat' (split at hs)
            all_goals first | (have := addS_i hs; dsimp only at this; omega) | (cases hs; done) | (injection hs with hs; subst hs; dsimp only; omega)
/-- How far the inflater is from its end. -/
def irk (n : Nat) : Nat := if n = 6 ∨ n = 11 then 8 else if n = 10 then 6 else if n = 8 then 5 else if n = 13 then 4 else if n = 14 ∨ n = 15 then 3 else if n = 12 then 2 else if n = 16 then 0 else 1
def imu (zs : List Int) (c : IC) : Nat := 16 * (8 * zs.length - c.lc.i) + irk c.st
theorem irk_le (n : Nat) : irk n ≤ 8 := by
  unfold irk
  repeat' split
  all_goals omega
theorem imu_on {zs : List Int} {c c' : IC} (h : c.lc.i < c'.lc.i) (h' : c'.lc.i ≤ 8 * zs.length) : imu zs c' < imu zs c := by
  unfold imu
  have := irk_le c'.st
  omega
theorem imu_st {zs : List Int} {c c' : IC} (h : c.lc.i ≤ c'.lc.i) (hr : irk c'.st < irk c.st) : imu zs c' < imu zs c := by
  unfold imu
  omega
theorem lens_use {c : LC} (h : LWell c) (h6 : c.st = 6) (hf : (c.lens.length : Int) = c.f 2 + c.f 3) : (c.lens.take (c.f 2).toNat).length ≤ 320 ∧ (c.lens.drop (c.f 2).toNat).length ≤ 320 := by
  have h1 := h.lit (by omega)
  have h2 := h.dist (by omega)
  rw [List.length_take, List.length_drop]
  constructor <;> omega
/-- Each step keeps the numbers well, and brings the end nearer. -/
theorem istep0_ok {s : Nat} {zs : List Int} {c c' : IC} (hW : IWell zs c) (h15 : c.st ≤ 15) (hzl : zs.length ≤ 65536) (hs : istep0 s zs c = .inl c') : IWell zs c' ∧ imu zs c' < imu zs c := by
  have hle := hW.le
  have hou := hW.out
  unfold istep0 at hs
  by_cases h5 : c.st ≤ 5
  · rw [if_pos h5] at hs
    obtain ⟨hL, hst⟩ := hW.lens (by omega)
    cases hl : lstep0 zs c.lc with
    | inr x => rw [hl] at hs; cases hs
    | inl l =>
      rw [hl] at hs
      injection hs with hs
      subst hs
      have hw := lstep0_well hL (by omega) hl
      have h6 := hw.s6
      have hi := lstep0_i (by omega) hle hl
      have hm := lstep0_more (by omega) hL hl
      refine ⟨⟨by show l.st ≤ 16; omega, hi, hou, fun _ => ⟨hw, rfl⟩, fun h => ?_, fun h => lstep0_six (by omega) hl h, fun h => ?_, fun h => ?_, fun h _ => ?_, fun h => ?_, fun h => ?_, fun h => ?_⟩, imu_on hm hi⟩
      all_goals (dsimp only at h; omega)
  rw [if_neg h5] at hs
  by_cases h6 : c.st = 6
  · rw [if_pos h6] at hs
    unfold dynamicCodesS at hs
    injection hs with hs
    subst hs
    have hu := lens_use (hW.lens (by omega)).1 (by rw [(hW.lens (by omega)).2]; exact h6) (hW.full h6)
    refine ⟨⟨by show 12 ≤ 16; omega, hle, hou, fun h => ?_, fun _ => rfl, fun h => ?_, fun h => ?_, fun h => ?_, fun _ _ => hu, fun h => ?_, fun h => ?_, fun h => ?_⟩, imu_st (Nat.le_refl _) (by rw [h6]; show irk 12 < irk 6; decide)⟩
    all_goals (dsimp only at h; omega)
  rw [if_neg h6] at hs
  have hr0 := hW.rest (by omega)
  by_cases h7 : c.st = 7
  · rw [if_pos h7] at hs
    unfold blockHeadS at hs
    split at hs
    · split at hs
      · injection hs with hs
        subst hs
        refine ⟨⟨by show 9 ≤ 16; omega, by show (c.lc.i + 3 + 7) / 8 * 8 ≤ _; omega, hou, fun h => ?_, fun _ => hr0, fun h => ?_, fun _ => by show (c.lc.i + 3 + 7) / 8 * 8 % 8 = 0; omega, fun h => ?_, fun h _ => ?_, fun h => ?_, fun h => ?_, fun h => ?_⟩, imu_on (by show c.lc.i < (c.lc.i + 3 + 7) / 8 * 8; omega) (by show (c.lc.i + 3 + 7) / 8 * 8 ≤ _; omega)⟩
        all_goals (dsimp only at h; omega)
      · split at hs
        · injection hs with hs
          subst hs
          refine ⟨⟨by show 11 ≤ 16; omega, by show c.lc.i + 3 ≤ _; omega, hou, fun h => ?_, fun _ => hr0, fun h => ?_, fun h => ?_, fun h => ?_, fun h _ => ?_, fun h => ?_, fun h => ?_, fun h => ?_⟩, imu_on (by show c.lc.i < c.lc.i + 3; omega) (by show c.lc.i + 3 ≤ _; omega)⟩
          all_goals (dsimp only at h; omega)
        · split at hs
          · injection hs with hs
            subst hs
            refine ⟨⟨by show 0 ≤ 16; omega, by show c.lc.i + 3 ≤ _; omega, hou, fun _ => ⟨LWell.none _ hr0, hr0⟩, fun h => ?_, fun h => ?_, fun h => ?_, fun h => ?_, fun h _ => ?_, fun h => ?_, fun h => ?_, fun h => ?_⟩, imu_on (by show c.lc.i < c.lc.i + 3; omega) (by show c.lc.i + 3 ≤ _; omega)⟩
            all_goals (dsimp only at h; omega)
          · cases hs
    · cases hs
  rw [if_neg h7] at hs
  by_cases h8 : c.st = 8
  · rw [if_pos h8] at hs
    unfold blockEndS at hs
    split at hs
    · injection hs with hs
      subst hs
      refine ⟨⟨by show 16 ≤ 16; omega, hle, hou, fun h => ?_, fun _ => hr0, fun h => ?_, fun h => ?_, fun h => ?_, fun _ h => ?_, fun h => ?_, fun h => ?_, fun h => ?_⟩, imu_st (Nat.le_refl _) (by rw [h8]; show irk 16 < irk 8; decide)⟩
      all_goals (dsimp only at h; omega)
    · injection hs with hs
      subst hs
      refine ⟨⟨by show 7 ≤ 16; omega, hle, hou, fun h => ?_, fun _ => hr0, fun h => ?_, fun h => ?_, fun h => ?_, fun h _ => ?_, fun h => ?_, fun h => ?_, fun h => ?_⟩, imu_st (Nat.le_refl _) (by rw [h8]; show irk 7 < irk 8; decide)⟩
      all_goals (dsimp only at h; omega)
  rw [if_neg h8] at hs
  by_cases h9 : c.st = 9
  · rw [if_pos h9] at hs
    have ha := hW.al (.inl h9)
    unfold storedHeadS at hs
    split at hs
    · split at hs
      · injection hs with hs
        subst hs
        refine ⟨⟨by show 10 ≤ 16; omega, by show c.lc.i + 32 ≤ _; omega, hou, fun h => ?_, fun _ => hr0, fun h => ?_, fun _ => by show (c.lc.i + 32) % 8 = 0; omega, fun _ => by show _ % 65536 ≤ 65535; omega, fun h _ => ?_, fun h => ?_, fun h => ?_, fun h => ?_⟩, imu_on (by show c.lc.i < c.lc.i + 32; omega) (by show c.lc.i + 32 ≤ _; omega)⟩
        all_goals (dsimp only at h; omega)
      · cases hs
    · cases hs
  rw [if_neg h9] at hs
  by_cases h10 : c.st = 10
  · rw [if_pos h10] at hs
    have ha := hW.al (.inr h10)
    have hst := hW.sto h10
    unfold storedBytesS at hs
    split at hs
    · injection hs with hs
      subst hs
      refine ⟨⟨by show 8 ≤ 16; omega, hle, hou, fun h => ?_, fun _ => hr0, fun h => ?_, fun h => ?_, fun h => ?_, fun h _ => ?_, fun h => ?_, fun h => ?_, fun h => ?_⟩, imu_st (Nat.le_refl _) (by rw [h10]; show irk 8 < irk 10; decide)⟩
      all_goals (dsimp only at h; omega)
    · have hn1 : 1 ≤ stN zs c := by unfold stN; omega
      generalize hm : stN zs c = m at *
      split at hs
      · split at hs
        · cases hs
        · injection hs with hs
          subst hs
          have hl : (c.out ++ (zs.drop (c.lc.i / 8)).take m).length ≤ 100000 := by rw [List.length_append, List.length_take]; omega
          refine ⟨⟨by show c.st ≤ 16; omega, by show c.lc.i + 8 * m ≤ _; omega, hl, fun h => ?_, fun _ => hr0, fun h => ?_, fun _ => by show (c.lc.i + 8 * m) % 8 = 0; omega, fun _ => by show c.stored - m ≤ 65535; omega, fun h _ => ?_, fun h => ?_, fun h => ?_, fun h => ?_⟩, imu_on (by show c.lc.i < c.lc.i + 8 * m; omega) (by show c.lc.i + 8 * m ≤ _; omega)⟩
          all_goals (have h' := h; unfold tellC at h'; dsimp only at h'; omega)
      · cases hs
  rw [if_neg h10] at hs
  by_cases h11 : c.st = 11
  · rw [if_pos h11] at hs
    unfold fixedCodesS at hs
    injection hs with hs
    subst hs
    refine ⟨⟨by show 12 ≤ 16; omega, hle, hou, fun h => ?_, fun _ => hr0, fun h => ?_, fun h => ?_, fun h => ?_, fun _ _ => ⟨by show F288.length ≤ 320; rw [F288_len]; omega, by show F32.length ≤ 320; decide⟩, fun h => ?_, fun h => ?_, fun h => ?_⟩, imu_st (Nat.le_refl _) (by rw [h11]; show irk 12 < irk 11; decide)⟩
    all_goals (dsimp only at h; omega)
  rw [if_neg h11] at hs
  have hu := hW.use (by omega) h15
  by_cases h12 : c.st = 12
  · rw [if_pos h12] at hs
    unfold literalS at hs
    have hm : Nat.min (8 * zs.length - c.lc.i) 15 ≤ 8 * zs.length - c.lc.i := Nat.min_le_left _ _
    generalize Nat.min (8 * zs.length - c.lc.i) 15 = n at *
    have hsy := nx3_sym (ls := c.ul) (b := field (bnum zs) c.lc.i n) (n := n)
    have hpo := nx3_pos (ls := c.ul) (b := field (bnum zs) c.lc.i n) (n := n)
    generalize nx3 c.ul (field (bnum zs) c.lc.i n) n = x at *
    obtain ⟨k, s', l⟩ := x
    dsimp only at hs hsy hpo
    split at hs
    · rename_i hk
      have hl := (hsy hk).2
      have hp := hpo hk
      split at hs
      · split at hs
        · cases hs
        · injection hs with hs
          subst hs
          have hl2 : (c.out ++ [(s' : Int)]).length ≤ 100000 := by rw [List.length_append]; show _ + 1 ≤ _; omega
          refine ⟨⟨by show c.st ≤ 16; omega, by show c.lc.i + l ≤ _; omega, hl2, fun h => ?_, fun _ => hr0, fun h => ?_, fun h => ?_, fun h => ?_, fun _ _ => hu, fun h => ?_, fun h => ?_, fun h => ?_⟩, imu_on (by show c.lc.i < c.lc.i + l; omega) (by show c.lc.i + l ≤ _; omega)⟩
          all_goals (have h' := h; unfold tellC at h'; dsimp only at h'; omega)
      · split at hs
        · injection hs with hs
          subst hs
          refine ⟨⟨by show 8 ≤ 16; omega, by show c.lc.i + l ≤ _; omega, hou, fun h => ?_, fun _ => hr0, fun h => ?_, fun h => ?_, fun h => ?_, fun h _ => ?_, fun h => ?_, fun h => ?_, fun h => ?_⟩, imu_on (by show c.lc.i < c.lc.i + l; omega) (by show c.lc.i + l ≤ _; omega)⟩
          all_goals (dsimp only at h; omega)
        · split at hs
          · cases hs
          · injection hs with hs
            subst hs
            refine ⟨⟨by show 13 ≤ 16; omega, by show c.lc.i + l ≤ _; omega, hou, fun h => ?_, fun _ => hr0, fun h => ?_, fun h => ?_, fun h => ?_, fun _ _ => hu, fun _ => lenR_le s' (by omega) (by omega), fun h => ?_, fun h => ?_⟩, imu_on (by show c.lc.i < c.lc.i + l; omega) (by show c.lc.i + l ≤ _; omega)⟩
            all_goals (dsimp only at h; omega)
    · split at hs <;> cases hs
  rw [if_neg h12] at hs
  by_cases h13 : c.st = 13
  · rw [if_pos h13] at hs
    obtain ⟨b1, b2, b3⟩ := hW.cl h13
    unfold copyLengthS at hs
    split at hs
    · injection hs with hs
      subst hs
      have hF := field_lt (bnum zs) c.lc.i c.extra
      refine ⟨⟨by show 14 ≤ 16; omega, by show c.lc.i + c.extra ≤ _; omega, hou, fun h => ?_, fun _ => hr0, fun h => ?_, fun h => ?_, fun h => ?_, fun _ _ => hu, fun h => ?_, fun _ => ⟨by show 3 ≤ c.base + _; omega, by show c.base + field (bnum zs) c.lc.i c.extra ≤ 258; omega⟩, fun h => ?_⟩, imu_st (by show c.lc.i ≤ c.lc.i + c.extra; omega) (by rw [h13]; show irk 14 < irk 13; decide)⟩
      all_goals (dsimp only at h; omega)
    · cases hs
  rw [if_neg h13] at hs
  have hln := hW.ln (by omega)
  by_cases h14 : c.st = 14
  · rw [if_pos h14] at hs
    unfold distanceS at hs
    have hm : Nat.min (8 * zs.length - c.lc.i) 15 ≤ 8 * zs.length - c.lc.i := Nat.min_le_left _ _
    generalize Nat.min (8 * zs.length - c.lc.i) 15 = n at *
    have hsy := nx3_sym (ls := c.ud) (b := field (bnum zs) c.lc.i n) (n := n)
    have hpo := nx3_pos (ls := c.ud) (b := field (bnum zs) c.lc.i n) (n := n)
    generalize nx3 c.ud (field (bnum zs) c.lc.i n) n = x at *
    obtain ⟨k, s', l⟩ := x
    dsimp only at hs hsy hpo
    split at hs
    · rename_i hk
      have hl := (hsy hk).2
      have hp := hpo hk
      split at hs
      · cases hs
      · injection hs with hs
        subst hs
        refine ⟨⟨by show 15 ≤ 16; omega, by show c.lc.i + l ≤ _; omega, hou, fun h => ?_, fun _ => hr0, fun h => ?_, fun h => ?_, fun h => ?_, fun _ _ => hu, fun h => ?_, fun _ => hln, fun _ => distR_le s' (by omega)⟩, imu_on (by show c.lc.i < c.lc.i + l; omega) (by show c.lc.i + l ≤ _; omega)⟩
        all_goals (dsimp only at h; omega)
    · split at hs <;> cases hs
  rw [if_neg h14] at hs
  have h15' : c.st = 15 := by omega
  unfold copyDistanceS at hs
  split at hs
  · split at hs
    · cases hs
    · split at hs
      · cases hs
      · injection hs with hs
        subst hs
        have hl2 : (c.out ++ dataN c.t (c.base + field (bnum zs) c.lc.i c.extra) c.len).length ≤ 100000 := by rw [List.length_append, dataN_len]; omega
        refine ⟨⟨by show 12 ≤ 16; omega, by show c.lc.i + c.extra ≤ _; omega, hl2, fun h => ?_, fun _ => hr0, fun h => ?_, fun h => ?_, fun h => ?_, fun _ _ => hu, fun h => ?_, fun h => ?_, fun h => ?_⟩, imu_st (by show c.lc.i ≤ c.lc.i + c.extra; omega) (by rw [h15']; show irk 12 < irk 15; decide)⟩
        all_goals (have h' := h; unfold copyC at h'; dsimp only at h'; omega)
  · cases hs
end Go.Proofs.YtbddkkfakkedaaaGreatDoor
namespace Go.Proofs.YtbddkkfakkedaaaGreatDoor
open Go.RowKit
variable {KH : Nat → Option Obj}
attribute [local go_sem ↓] Go.wp_at_zero Go.wp_at_succ
set_option linter.unusedVariables false

theorem igo_dynamicCodes (args : Array Value) (W : World) : Sem.run Tryz.prog (callFunc 84 args) W = .ok (.enter 84 args) W := by kernel_rfl
theorem igo_blockHead (args : Array Value) (W : World) : Sem.run Tryz.prog (callFunc 83 args) W = .ok (.enter 83 args) W := by kernel_rfl
theorem igo_blockEnd (args : Array Value) (W : World) : Sem.run Tryz.prog (callFunc 158 args) W = .ok (.enter 158 args) W := by kernel_rfl
theorem igo_storedHead (args : Array Value) (W : World) : Sem.run Tryz.prog (callFunc 124 args) W = .ok (.enter 124 args) W := by kernel_rfl
theorem igo_storedBytes (args : Array Value) (W : World) : Sem.run Tryz.prog (callFunc 152 args) W = .ok (.enter 152 args) W := by kernel_rfl
theorem igo_fixedCodes (args : Array Value) (W : World) : Sem.run Tryz.prog (callFunc 125 args) W = .ok (.enter 125 args) W := by kernel_rfl
theorem igo_literal (args : Array Value) (W : World) : Sem.run Tryz.prog (callFunc 129 args) W = .ok (.enter 129 args) W := by kernel_rfl
theorem igo_copyLength (args : Array Value) (W : World) : Sem.run Tryz.prog (callFunc 160 args) W = .ok (.enter 160 args) W := by kernel_rfl
theorem igo_distance (args : Array Value) (W : World) : Sem.run Tryz.prog (callFunc 171 args) W = .ok (.enter 171 args) W := by kernel_rfl
theorem igo_copyDistance (args : Array Value) (W : World) : Sem.run Tryz.prog (callFunc 179 args) W = .ok (.enter 179 args) W := by kernel_rfl
theorem ifn_go (s : Nat) (hs : s ≤ 15) (args : Array Value) (W : World) : Sem.run Tryz.prog (callFunc (ifn s) args) W = .ok (.enter (ifn s) args) W := by
  by_cases h5 : s ≤ 5
  · rw [ifn_le s h5]
    exact lfn_go s h5 args W
  · have h3 : s = 6 ∨ s = 7 ∨ s = 8 ∨ s = 9 ∨ s = 10 ∨ s = 11 ∨ s = 12 ∨ s = 13 ∨ s = 14 ∨ s = 15 := by omega
    rcases h3 with rfl | rfl | rfl | rfl | rfl | rfl | rfl | rfl | rfl | rfl
    · exact igo_dynamicCodes args W
    · exact igo_blockHead args W
    · exact igo_blockEnd args W
    · exact igo_storedHead args W
    · exact igo_storedBytes args W
    · exact igo_fixedCodes args W
    · exact igo_literal args W
    · exact igo_copyLength args W
    · exact igo_distance args W
    · exact igo_copyDistance args W
/-- Which state comes next is no matter of the memory's. -/
theorem IMem.next {q p hB g s B : Nat} {zs : List Int} {aft : Value} {w : World} {c : IC} (h : IMem KH q p hB g s B zs aft w c) (v : Value) : IMem KH q p hB g s B zs aft (w.setCell ⟨q, 1, none⟩ v) c := by
  obtain ⟨T, hR, h26⟩ := h.ex
  obtain ⟨g1, g2, g3, g4, g5, g6, g7⟩ := hR.ne
  have hg := grownBy_setCell w ⟨q, 1, none⟩ v
  have hc : ∀ o, o ≠ 1 → (w.setCell ⟨q, 1, none⟩ v).cell? ⟨q, o, none⟩ = w.cell? ⟨q, o, none⟩ := fun o ho => World.cell?_setCell_other _ _ _ _ (by first | (simp; done) | (simp; omega))
  have hgl : g < w.heap.size := by obtain ⟨rs, p, c, h1, _⟩ := hR.rg; exact h1.lt
  have hb : ∀ k, k < w.heap.size → k ≠ q → (w.setCell ⟨q, 1, none⟩ v).heap[k]? = w.heap[k]? := fun k hk hne => hg.block k hk (by simp; exact hne)
  refine ⟨h.lm.next v, h.ls, h.bs, T, hR.keep hg.size (fun o ho => hc o (by omega)) (fun k hk => hb k (hR.tlt k hk) (fun e => g5 (e ▸ hk))) (hb g hgl g1) (fun ao n cap k e1 e2 => hb k (hR.at30 ao n cap k e1 e2).1 (hR.at30 ao n cap k e1 e2).2.2.2.1), ?_⟩
  intro u k e1 e2
  rw [hc 26 (by omega)] at e1
  rw [hc 30 (by omega)]
  exact h26 u k e1 e2
/-- Where an inflater stands that has met its end. -/
def iStop (c : IC) : IC := { c with st := 16, lc := { c.lc with st := 0 } }
theorem IMem.stop {q p hB g s B : Nat} {zs : List Int} {aft : Value} {w : World} {c : IC} (h : IMem KH q p hB g s B zs aft w c) : IMem KH q p hB g s B zs aft w (iStop c) := by
  obtain ⟨T, hR, h26⟩ := h.ex
  refine ⟨h.lm.at 0 (fun h => by omega) (fun h => by omega), ⟨fun e => by show (0 : Nat) = 16; have : 16 ≤ 6 := e; omega, fun _ => rfl⟩, h.bs, T, ?_, h26⟩
  exact { hR with c34 := ⟨hR.c34.1, fun _ e2 => by have : 16 ≤ 15 := e2; omega⟩ }
/-- Where an inflater stands, its numbers well unless it has ended. -/
abbrev IW (zs : List Int) := { c : IC // c.st ≤ 15 → IWell zs c }
/-- A step, where a fault for good is its end. -/
def istep (s : Nat) (zs : List Int) (hzl : zs.length ≤ 65536) (c : IW zs) : IW zs ⊕ (Int × IW zs) :=
  if h15 : c.1.st ≤ 15 then
    match hs : istep0 s zs c.1 with
    | .inl c' => .inl ⟨c', fun _ => (istep0_ok (c.2 h15) h15 hzl hs).1⟩
    | .inr (k, cf) => .inr (k, if k = 2 then c else ⟨iStop cf, fun h => absurd h (by show ¬ (16 : Nat) ≤ 15; omega)⟩)
  else .inr (0, c)
theorem istep_inl {s : Nat} {zs : List Int} {hzl : zs.length ≤ 65536} {c c' : IW zs} (h15 : c.1.st ≤ 15) (h : istep s zs hzl c = .inl c') : istep0 s zs c.1 = .inl c'.1 := by
  unfold istep at h
  rw [dif_pos h15] at h
  split at h
  · rename_i c2 hs
    injection h with h
    rw [← h]
    exact hs
  · cases h
theorem istep_inr {s : Nat} {zs : List Int} {hzl : zs.length ≤ 65536} {c cf : IW zs} {k : Int} (h15 : c.1.st ≤ 15) (h : istep s zs hzl c = .inr (k, cf)) : ∃ c2, istep0 s zs c.1 = .inr (k, c2) ∧ (k = 2 → cf = c) ∧ (k ≠ 2 → cf.1 = iStop c2) := by
  unfold istep at h
  rw [dif_pos h15] at h
  split at h
  · cases h
  · rename_i k2 c2 hs
    injection h with h
    injection h with h1 h2
    subst h1
    refine ⟨c2, hs, fun e => ?_, fun e => ?_⟩
    · rw [if_pos e] at h2
      exact h2.symm
    · rw [if_neg e] at h2
      rw [← h2]
def inowO (q : Nat) {zs : List Int} (c : IW zs) : Option (Nat × Array Value) := if c.1.st ≤ 15 then some (ifn c.1.st, #[.pointer (some ⟨q, 0, none⟩)]) else none
theorem inowO_v (q : Nat) {zs : List Int} (c : IW zs) : nowV (inowO q) c = inow q .nilFunc c.1.st := by
  unfold nowV inowO inow
  by_cases h : c.1.st ≤ 15
  · rw [if_pos h, if_pos h]
  · rw [if_neg h, if_neg h]
theorem addS_two {c cf : LC} {v : Int} {t : Nat} (hs : addS c v t = .inr (2, cf)) : False := by
  unfold addS at hs
  repeat' (split at hs)
  all_goals first | (cases hs; done) | (injection hs with e; injection e with e1 e2; omega)
theorem lstep0_two {zs : List Int} {c cf : LC} (hs : lstep0 zs c = .inr (2, cf)) : cf = c := by
  unfold lstep0 at hs
  split at hs
  · unfold litCountS at hs
    repeat' (split at hs)
    all_goals first | (cases hs; done) | (injection hs with e; injection e with e1 e2; first | omega | exact e2.symm)
  · split at hs
    · unfold distCountS at hs
      repeat' (split at hs)
      all_goals first | (cases hs; done) | (injection hs with e; injection e with e1 e2; first | omega | exact e2.symm)
    · split at hs
      · unfold codeCountS at hs
        repeat' (split at hs)
        all_goals first | (cases hs; done) | (injection hs with e; injection e with e1 e2; first | omega | exact e2.symm)
      · split at hs
        · unfold codeLenS at hs
          repeat' (split at hs)
          all_goals first | (cases hs; done) | (injection hs with e; injection e with e1 e2; first | omega | exact e2.symm)
        · split at hs
          · unfold nextLenS at hs
            repeat' (split at hs)
            all_goals first | exact (addS_two hs).elim | (cases hs; done) | (injection hs with e; injection e with e1 e2; first | omega | exact e2.symm)
          · unfold repeatS at hs
            repeat' (split at hs)
            all_goals first | exact (addS_two hs).elim | (cases hs; done) | (injection hs with e; injection e with e1 e2; first | omega | exact e2.symm)
theorem istep0_two {s : Nat} {zs : List Int} {c cf : IC} (hW : IWell zs c) (hs : istep0 s zs c = .inr (2, cf)) : cf = c := by
  unfold istep0 at hs
  by_cases h5 : c.st ≤ 5
  · rw [if_pos h5] at hs
    cases hl : lstep0 zs c.lc with
    | inl l => rw [hl] at hs; cases hs
    | inr x =>
      rw [hl] at hs
      obtain ⟨k, l⟩ := x
      injection hs with e
      injection e with e1 e2
      dsimp only at e1 e2
      subst e1
      have := lstep0_two hl
      subst this
      have hst := (hW.lens (by omega)).2
      rw [← e2, hst]
  rw [if_neg h5] at hs
  by_cases h6 : c.st = 6
  · rw [if_pos h6] at hs; unfold dynamicCodesS at hs; cases hs
  rw [if_neg h6] at hs
  by_cases h7 : c.st = 7
  · rw [if_pos h7] at hs
    unfold blockHeadS at hs
    repeat' (split at hs)
    all_goals first | (cases hs; done) | (injection hs with e; injection e with e1 e2; first | omega | exact e2.symm)
  rw [if_neg h7] at hs
  by_cases h8 : c.st = 8
  · rw [if_pos h8] at hs
    unfold blockEndS at hs
    split at hs <;> cases hs
  rw [if_neg h8] at hs
  by_cases h9 : c.st = 9
  · rw [if_pos h9] at hs
    unfold storedHeadS at hs
    repeat' (split at hs)
    all_goals first | (cases hs; done) | (injection hs with e; injection e with e1 e2; first | omega | exact e2.symm)
  rw [if_neg h9] at hs
  by_cases h10 : c.st = 10
  · rw [if_pos h10] at hs
    unfold storedBytesS at hs
    repeat' (split at hs)
    all_goals first | (cases hs; done) | (injection hs with e; injection e with e1 e2; first | omega | exact e2.symm)
  rw [if_neg h10] at hs
  by_cases h11 : c.st = 11
  · rw [if_pos h11] at hs; unfold fixedCodesS at hs; cases hs
  rw [if_neg h11] at hs
  by_cases h12 : c.st = 12
  · rw [if_pos h12] at hs
    unfold literalS at hs
    repeat' (split at hs)
    all_goals first | (cases hs; done) | (injection hs with e; injection e with e1 e2; first | omega | exact e2.symm)
  rw [if_neg h12] at hs
  by_cases h13 : c.st = 13
  · rw [if_pos h13] at hs
    unfold copyLengthS at hs
    repeat' (split at hs)
    all_goals first | (cases hs; done) | (injection hs with e; injection e with e1 e2; first | omega | exact e2.symm)
  rw [if_neg h13] at hs
  by_cases h14 : c.st = 14
  · rw [if_pos h14] at hs
    unfold distanceS at hs
    repeat' (split at hs)
    all_goals first | (cases hs; done) | (injection hs with e; injection e with e1 e2; first | omega | exact e2.symm)
  rw [if_neg h14] at hs
  unfold copyDistanceS at hs
  repeat' (split at hs)
  all_goals first | (cases hs; done) | (injection hs with e; injection e with e1 e2; first | omega | exact e2.symm)
set_option maxRecDepth 100000 in
/-- The inflater, run from any state. -/
theorem inflate_run (q p hB g s B : Nat) (zs : List Int) (hz : Octets zs) (hzl : zs.length ≤ 65536) (c0 : IW zs) (w : World) (hM : IMem KH q p hB g s B zs .nilFunc w c0.1) (hn : w.cell? ⟨q, 1, none⟩ = some (inow q .nilFunc c0.1.st)) :
    Calls Tryz.prog 25 #[.pointer (some ⟨q, 0, none⟩)] w fun e w' => RunPost (inowO q) (istep s zs hzl) (fun W (c : IW zs) => IMem KH q p hB g s B zs .nilFunc W c.1) B c0 w e w' := by
  have hst : ∀ (c : IW zs) f caps, inowO q c = some (f, caps) → c.1.st ≤ 15 ∧ f = ifn c.1.st ∧ caps = #[.pointer (some ⟨q, 0, none⟩)] := by
    intro c f caps h
    unfold inowO at h
    split at h
    · rename_i h5
      injection h with h
      injection h with h1 h2
      exact ⟨h5, h1.symm, h2.symm⟩
    · cases h
  have hst2 : ∀ (c : IW zs), inowO q c ≠ none → c.1.st ≤ 15 := by
    intro c h
    unfold inowO at h
    split at h
    · assumption
    · exact absurd rfl h
  refine run_any q B (inowO q) (fun W (c : IW zs) => IMem KH q p hB g s B zs .nilFunc W c.1) (istep s zs hzl) (fun c => imu zs c.1) hM.bs.2.1 ?_ ?_ ?_ ?_ ?_ ?_ c0 w hM (by rw [inowO_v]; exact hn)
  · intro c f caps h args W
    obtain ⟨h5, rfl, _⟩ := hst c f caps h
    exact ifn_go _ h5 args W
  · intro W c h
    exact ⟨h.lm.c1, h.lm.free 1, h.lm.g0⟩
  · intro W c v h
    exact h.next v
  · intro W W' c h hb
    exact h.below hb
  · intro W c f caps h hMc
    obtain ⟨h5, rfl, rfl⟩ := hst c f caps h
    have hWc := c.2 h5
    refine Calls.mono (istate_any q p hB g s B zs .nilFunc c.1 W hMc hWc h5 hz hzl) ?_
    rintro e W' ⟨hy, hno⟩
    refine ⟨fun c' hc => ?_, fun k cf hc => ?_⟩
    · obtain ⟨h1, h2, h3⟩ := hy c'.1 (istep_inl h5 hc)
      exact ⟨by rw [inowO_v]; exact h1, h2, h3⟩
    · obtain ⟨c2, h1, h2, h3⟩ := istep_inr h5 hc
      obtain ⟨v, e1, h4, h6⟩ := hno k c2 h1
      refine ⟨v, e1, ?_, h6⟩
      by_cases hk : k = 2
      · subst hk
        have e2 := istep0_two hWc h1
        rw [h2 rfl]
        rw [e2] at h4
        exact h4
      · show IMem KH q p hB g s B zs .nilFunc W' cf.1
        rw [h3 hk]
        exact h4.stop
  · intro c c' h hs
    have h5 := hst2 c h
    exact (istep0_ok (c.2 h5) h5 hzl (istep_inl h5 hs)).2
end Go.Proofs.YtbddkkfakkedaaaGreatDoor
