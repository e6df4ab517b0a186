/-
  CODES IN A ROW: the codes of all symbols, each as an interval of the numbers below 2^15, lie one behind the other without a gap. No program.
  What stands: intervals are apart (cov_one), they fill all below the sum (cov_ex), what a code's bits say of the number of the next fifteen bits (tr_div, cov_iff).
-/
import Derived.Test.YtmfacacpoajpgacHK
import Derived.Test.YtmfacacpoajpgacRev
namespace Go.Proofs.Ytmfacacpoajpgac
open Go.RowKit

/-- The first code of each length (as HC has it). -/
def fs (f : Nat → Nat) : Nat → Nat
  | 0 => 0
  | 1 => 0
  | l + 2 => 2 * (fs f (l + 1) + f (l + 1))
/-- The length of symbol i. -/
def ln (zs : List Int) (i : Nat) : Nat := (zs.getD i 0).toNat
/-- Its code as a number, the first bit the highest. -/
def num (zs : List Int) (i : Nat) : Nat := fs (cnt zs) (ln zs i) + cnt (zs.take i) (ln zs i)
/-- How far the codes of the lengths up to l reach. -/
def SS (zs : List Int) (l : Nat) : Nat := sumTo (fun m => cnt zs m * 2 ^ (15 - m)) l
theorem SS_succ (zs : List Int) (l : Nat) : SS zs (l + 1) = SS zs l + cnt zs (l + 1) * 2 ^ (15 - (l + 1)) := rfl
theorem SS_mono (zs : List Int) {l m : Nat} (h : l ≤ m) : SS zs l ≤ SS zs m := by
  induction h with
  | refl => exact Nat.le_refl _
  | step _ ih => exact Nat.le_trans ih (by rw [SS_succ]; exact Nat.le_add_right _ _)
theorem fs_SS (zs : List Int) : ∀ k, k ≤ 14 → fs (cnt zs) (k + 1) * 2 ^ (14 - k) = SS zs k
  | 0, _ => by simp [fs, SS, sumTo]
  | k + 1, h => by
    have ih := fs_SS zs k (by omega)
    have e : 2 ^ (14 - k) = 2 * 2 ^ (14 - (k + 1)) := by rw [show 14 - k = (14 - (k + 1)) + 1 by omega, Nat.pow_succ]; omega
    rw [SS_succ, ← ih, show 15 - (k + 1) = 14 - k by omega, fs, ← Nat.add_mul, e, Nat.mul_comm 2 (fs _ _ + _), Nat.mul_assoc]
theorem cnt_take_le (zs : List Int) (k l : Nat) : cnt (zs.take k) l ≤ cnt zs l := by
  unfold cnt
  exact List.Sublist.countP_le (List.take_sublist k zs)
theorem cnt_step (zs : List Int) {i : Nat} (hi : i < zs.length) {l : Nat} (hl : zs.getD i 0 = (l : Int)) : cnt (zs.take (i + 1)) l = cnt (zs.take i) l + 1 := by
  rw [take_snoc zs i hi, cnt_app, if_pos hl]
theorem cnt_take_mono (zs : List Int) (l : Nat) {i j : Nat} (h : i ≤ j) : cnt (zs.take i) l ≤ cnt (zs.take j) l := by
  have e : zs.take i = (zs.take j).take i := by rw [List.take_take, Nat.min_eq_left h]
  rw [e]
  exact cnt_take_le _ _ _
/-- Symbol i has a code. -/
structure Coded (zs : List Int) (i : Nat) : Prop where
  lt : i < zs.length
  is : zs.getD i 0 = (ln zs i : Int)
  pos : 1 ≤ ln zs i
  most : ln zs i ≤ 15
theorem Coded.of {zs : List Int} (ho : okL zs) {i : Nat} (hi : i < zs.length) (h0 : ln zs i ≠ 0) : Coded zs i := by
  have h := ho zs[i] (List.getElem_mem hi)
  have e : zs[i] = zs.getD i 0 := by simp [List.getD, hi]
  rw [e] at h
  unfold ln at h0
  exact ⟨hi, by unfold ln; omega, by unfold ln; omega, by unfold ln; omega⟩
/-- Where its interval begins. -/
def bg (zs : List Int) (i : Nat) : Nat := num zs i * 2 ^ (15 - ln zs i)
theorem bg_eq {zs : List Int} {i : Nat} (h : Coded zs i) : bg zs i = SS zs (ln zs i - 1) + cnt (zs.take i) (ln zs i) * 2 ^ (15 - ln zs i) := by
  obtain ⟨k, hk⟩ : ∃ k, ln zs i = k + 1 := ⟨ln zs i - 1, by have := h.pos; omega⟩
  have h15 := h.most
  have e := fs_SS zs k (by omega)
  unfold bg num
  rw [hk, Nat.add_mul, show 15 - (k + 1) = 14 - k by omega, e]
  rfl
theorem bg_end {zs : List Int} {i : Nat} (h : Coded zs i) : bg zs i + 2 ^ (15 - ln zs i) ≤ SS zs (ln zs i) := by
  have h1 := cnt_step zs h.lt h.is
  have h2 := cnt_take_le zs (i + 1) (ln zs i)
  have h3 := bg_eq h
  obtain ⟨k, hk⟩ : ∃ k, ln zs i = k + 1 := ⟨ln zs i - 1, by have := h.pos; omega⟩
  rw [hk] at h1 h2 h3 ⊢
  rw [SS_succ, h3, show k + 1 - 1 = k by omega, Nat.add_assoc]
  refine Nat.add_le_add_left ?_ _
  rw [← Nat.succ_mul]
  exact Nat.mul_le_mul_right _ (by omega)
/-- Symbol i's interval holds X. -/
def cov (zs : List Int) (i X : Nat) : Prop := Coded zs i ∧ bg zs i ≤ X ∧ X < bg zs i + 2 ^ (15 - ln zs i)
theorem cov_lt {zs : List Int} {i j X : Nat} (hi : cov zs i X) (hj : cov zs j X) (h : ln zs i < ln zs j ∨ (ln zs i = ln zs j ∧ i < j)) : False := by
  obtain ⟨ci, i1, i2⟩ := hi
  obtain ⟨cj, j1, j2⟩ := hj
  rcases h with h | ⟨h, hij⟩
  · have h1 := bg_end ci
    have h2 := bg_eq cj
    have h3 := SS_mono zs (show ln zs i ≤ ln zs j - 1 by omega)
    have h4 : bg zs j ≥ SS zs (ln zs j - 1) := by rw [h2]; exact Nat.le_add_right _ _
    omega
  · have h1 := bg_eq ci
    have h2 := bg_eq cj
    have h3 := cnt_step zs ci.lt ci.is
    have h4 := cnt_take_mono zs (ln zs i) (show i + 1 ≤ j by omega)
    rw [← h] at h2
    have h5 : (cnt (zs.take i) (ln zs i) + 1) * 2 ^ (15 - ln zs i) ≤ cnt (zs.take j) (ln zs i) * 2 ^ (15 - ln zs i) := Nat.mul_le_mul_right _ (by omega)
    rw [Nat.succ_mul] at h5
    omega
theorem cov_one {zs : List Int} {i j X : Nat} (hi : cov zs i X) (hj : cov zs j X) : i = j := by
  rcases Nat.lt_trichotomy (ln zs i) (ln zs j) with h | h | h
  · exact (cov_lt hi hj (.inl h)).elim
  · rcases Nat.lt_trichotomy i j with h2 | h2 | h2
    · exact (cov_lt hi hj (.inr ⟨h, h2⟩)).elim
    · exact h2
    · exact (cov_lt hj hi (.inr ⟨h.symm, h2⟩)).elim
  · exact (cov_lt hj hi (.inl h)).elim
/-- The k-th symbol of a length. -/
theorem kth (zs : List Int) (l : Nat) : ∀ n k, n ≤ zs.length → k < cnt (zs.take n) l → ∃ i, i < n ∧ zs.getD i 0 = (l : Int) ∧ cnt (zs.take i) l = k
  | 0, k, _, h => by simp [cnt] at h
  | n + 1, k, hn, h => by
    rw [take_snoc zs n (by omega), cnt_app] at h
    by_cases hk : k < cnt (zs.take n) l
    · obtain ⟨i, h1, h2, h3⟩ := kth zs l n k (by omega) hk
      exact ⟨i, by omega, h2, h3⟩
    · by_cases he : zs.getD n 0 = (l : Int)
      · rw [if_pos he] at h
        exact ⟨n, by omega, he, by omega⟩
      · rw [if_neg he] at h
        omega
theorem cov_ex (zs : List Int) (X : Nat) : ∀ l, l ≤ 15 → X < SS zs l → ∃ i, cov zs i X
  | 0, _, h => by simp [SS, sumTo] at h
  | l + 1, hl, h => by
    by_cases h1 : X < SS zs l
    · exact cov_ex zs X l (by omega) h1
    · rw [SS_succ] at h
      have hp : 0 < 2 ^ (15 - (l + 1)) := Nat.pos_of_ne_zero (by simp)
      obtain ⟨q, hq⟩ : ∃ q, q = (X - SS zs l) / 2 ^ (15 - (l + 1)) := ⟨_, rfl⟩
      have hq1 : q < cnt zs (l + 1) := by
        rw [hq, Nat.div_lt_iff_lt_mul hp]
        omega
      obtain ⟨i, h2, h3, h4⟩ := kth zs (l + 1) zs.length q (Nat.le_refl _) (by rw [List.take_length]; exact hq1)
      have hln : ln zs i = l + 1 := by unfold ln; rw [h3]; rfl
      have hc : Coded zs i := ⟨h2, by rw [hln]; exact h3, by omega, by omega⟩
      refine ⟨i, hc, ?_, ?_⟩
      · rw [bg_eq hc, hln, h4, hq, show l + 1 - 1 = l by omega]
        have := Nat.div_mul_le_self (X - SS zs l) (2 ^ (15 - (l + 1)))
        omega
      · rw [bg_eq hc, hln, h4, hq, show l + 1 - 1 = l by omega]
        have := Nat.lt_div_mul_add hp (a := X - SS zs l)
        omega
theorem SS_kr {zs : List Int} (h : okL zs) : SS zs 15 = kr zs := (kr_cnt zs h).symm
theorem num_lt {zs : List Int} {i : Nat} (h : Coded zs i) (hk : SS zs 15 ≤ 32768) : num zs i < 2 ^ ln zs i := by
  have h1 := bg_end h
  have h2 := SS_mono zs h.most
  have h3 : bg zs i + 2 ^ (15 - ln zs i) = (num zs i + 1) * 2 ^ (15 - ln zs i) := by unfold bg; rw [Nat.succ_mul]
  have h4 : (2 : Nat) ^ 15 = 2 ^ ln zs i * 2 ^ (15 - ln zs i) := by rw [← Nat.pow_add]; congr 1; have := h.most; omega
  have h5 : (num zs i + 1) * 2 ^ (15 - ln zs i) ≤ 2 ^ ln zs i * 2 ^ (15 - ln zs i) := by rw [← h3, ← h4]; omega
  exact Nat.le_of_mul_le_mul_right h5 (Nat.pos_of_ne_zero (by simp))
/-- The bits of the turned number. -/
theorem tr_bit (x l i : Nat) : (tr x l).testBit i = if i < l then x.testBit (l - 1 - i) else false := by
  rw [tr, turn_bit]
  split
  · rfl
  · exact Nat.zero_testBit _
theorem tr_mod (x l m : Nat) (h : l ≤ m) : tr (x % 2 ^ m) l = tr x l := by
  apply Nat.eq_of_testBit_eq
  intro i
  rw [tr_bit, tr_bit]
  split
  · rw [Nat.testBit_mod_two_pow]
    simp; omega
  · rfl
theorem tr_tr {x l : Nat} (h : x < 2 ^ l) : tr (tr x l) l = x := by
  apply Nat.eq_of_testBit_eq
  intro i
  rw [tr_bit]
  split
  · rw [tr_bit, if_pos (by omega)]
    congr 1; omega
  · exact (Nat.testBit_lt_two_pow (Nat.lt_of_lt_of_le h (Nat.pow_le_pow_right (by decide) (by omega)))).symm
/-- The first l of the next m bits, as a number. -/
theorem tr_div (b l m : Nat) (h : l ≤ m) : tr b m / 2 ^ (m - l) = tr b l := by
  apply Nat.eq_of_testBit_eq
  intro i
  rw [← Nat.shiftRight_eq_div_pow, Nat.testBit_shiftRight, tr_bit, tr_bit]
  by_cases hi : i < l
  · rw [if_pos (by omega), if_pos hi]
    congr 1; omega
  · rw [if_neg hi, if_neg (by omega)]
/-- The low bits of b are the code's exactly where the interval holds the number of the next fifteen bits. -/
theorem cov_iff {zs : List Int} {i : Nat} (h : Coded zs i) (hk : SS zs 15 ≤ 32768) (b : Nat) : b % 2 ^ ln zs i = tr (num zs i) (ln zs i) ↔ cov zs i (tr b 15) := by
  have hl := num_lt h hk
  have hd := tr_div b (ln zs i) 15 h.most
  have hp : 0 < 2 ^ (15 - ln zs i) := Nat.pos_of_ne_zero (by simp)
  have h1 : b % 2 ^ ln zs i = tr (num zs i) (ln zs i) ↔ tr b (ln zs i) = num zs i := by
    constructor
    · intro e
      rw [← tr_mod b (ln zs i) (ln zs i) (Nat.le_refl _), e, tr_tr hl]
    · intro e
      have h2 : b % 2 ^ ln zs i < 2 ^ ln zs i := Nat.mod_lt _ (Nat.pos_of_ne_zero (by simp))
      rw [← e, ← tr_mod b (ln zs i) (ln zs i) (Nat.le_refl _), tr_tr h2]
  rw [h1, ← hd]
  constructor
  · intro e
    refine ⟨h, ?_, ?_⟩
    · unfold bg; rw [← e]; exact Nat.div_mul_le_self _ _
    · unfold bg; rw [← e]; exact Nat.lt_div_mul_add hp
  · rintro ⟨_, h3, h4⟩
    unfold bg at h3 h4
    rw [← Nat.succ_mul] at h4
    exact Nat.le_antisymm (Nat.le_of_lt_succ ((Nat.div_lt_iff_lt_mul hp).2 h4)) ((Nat.le_div_iff_mul_le hp).2 h3)
theorem tr_low (x l m : Nat) (h : l ≤ m) : tr x m % 2 ^ l = tr (x / 2 ^ (m - l)) l := by
  apply Nat.eq_of_testBit_eq
  intro i
  rw [Nat.testBit_mod_two_pow, tr_bit, tr_bit]
  by_cases hi : i < l
  · rw [if_pos (by omega), if_pos hi, ← Nat.shiftRight_eq_div_pow, Nat.testBit_shiftRight, decide_eq_true hi, Bool.true_and]
    congr 1; omega
  · rw [if_neg hi, decide_eq_false hi, Bool.false_and]
theorem mod_mod (b l n : Nat) (h : l ≤ n) : b % 2 ^ n % 2 ^ l = b % 2 ^ l := Nat.mod_mod_of_dvd _ (Nat.pow_dvd_pow 2 h)
theorem tr_tr_mod (b n : Nat) : tr (tr b n) n = b % 2 ^ n := by
  rw [← tr_mod b n n (Nat.le_refl _), tr_tr (Nat.mod_lt _ (Nat.pos_of_ne_zero (by simp)))]
theorem tr_inj {a b l : Nat} (ha : a < 2 ^ l) (hb : b < 2 ^ l) (h : tr a l = tr b l) : a = b := by
  rw [← tr_tr ha, h, tr_tr hb]
/-- A code that holds the next bits begins with each of their beginnings. -/
theorem beg_of_cov {zs : List Int} {i b n : Nat} (h : cov zs i (tr (b % 2 ^ n) 15)) (hk : SS zs 15 ≤ 32768) {l : Nat} (hl : l ≤ n) (hi : l ≤ ln zs i) : tr (num zs i) (ln zs i) % 2 ^ l = b % 2 ^ l := by
  have h1 := (cov_iff h.1 hk (b % 2 ^ n)).2 h
  rw [← h1, Nat.mod_mod_of_dvd _ (Nat.pow_dvd_pow 2 hi)]
  exact mod_mod b l n hl
/-- The number of bits that end: zeros behind them. -/
theorem tr_zero (b n : Nat) (hn : n ≤ 15) : tr (b % 2 ^ n) 15 = tr b n * 2 ^ (15 - n) := by
  apply Nat.eq_of_testBit_eq
  intro i
  rw [tr_bit, ← Nat.shiftLeft_eq, Nat.testBit_shiftLeft, tr_bit]
  by_cases hi : i < 15
  · rw [if_pos hi, Nat.testBit_mod_two_pow]
    by_cases h2 : i ≥ 15 - n
    · rw [decide_eq_true h2, Bool.true_and, if_pos (by omega), decide_eq_true (by omega), Bool.true_and]
      congr 1; omega
    · rw [decide_eq_false h2, Bool.false_and, decide_eq_false (by omega), Bool.false_and]
  · rw [if_neg hi, if_neg (by omega), Bool.and_false]
/-- Where no code holds the next bits, with zeros behind them, none begins with them. -/
theorem no_beg {zs : List Int} (hk : SS zs 15 ≤ 32768) {b n : Nat} (hn : n ≤ 15) (hno : ∀ i, ¬ cov zs i (tr (b % 2 ^ n) 15)) {i : Nat} (h : Coded zs i) (hl : n < ln zs i) : tr (num zs i) (ln zs i) % 2 ^ n ≠ b % 2 ^ n := by
  intro e
  have hX : ¬ tr (b % 2 ^ n) 15 < SS zs 15 := fun hlt => by
    obtain ⟨j, hj⟩ := cov_ex zs _ 15 (Nat.le_refl _) hlt
    exact hno j hj
  have h15 := h.most
  rw [tr_low _ _ _ (by omega)] at e
  have hq : num zs i / 2 ^ (ln zs i - n) < 2 ^ n := by
    rw [Nat.div_lt_iff_lt_mul (Nat.pos_of_ne_zero (by simp)), ← Nat.pow_add, show n + (ln zs i - n) = ln zs i by omega]
    exact num_lt h hk
  have e2 : num zs i / 2 ^ (ln zs i - n) = tr b n := by
    refine tr_inj hq ?_ ?_
    · exact tr_lt _ _
    · rw [e, tr_tr_mod]
  have h1 : tr b n * 2 ^ (ln zs i - n) ≤ num zs i := by rw [← e2]; exact Nat.div_mul_le_self _ _
  have h2 : tr b n * 2 ^ (15 - n) ≤ bg zs i := by
    unfold bg
    rw [show 15 - n = (ln zs i - n) + (15 - ln zs i) by omega, Nat.pow_add, ← Nat.mul_assoc]
    exact Nat.mul_le_mul_right _ h1
  have h3 := bg_end h
  have h4 := SS_mono zs h15
  have h5 : 0 < 2 ^ (15 - ln zs i) := Nat.pos_of_ne_zero (by simp)
  rw [tr_zero b n hn] at hX
  omega
/-- What HuffNext answers, for lengths that have codes: kind, symbol, length. -/
def Ans (zs : List Int) (b n : Nat) (k s l : Nat) : Prop :=
  (∃ i, cov zs i (tr (b % 2 ^ n) 15) ∧ ln zs i ≤ n ∧ k = 1 ∧ s = i ∧ l = ln zs i) ∨ (∃ i, cov zs i (tr (b % 2 ^ n) 15) ∧ n < ln zs i ∧ k = 2 ∧ s = 0 ∧ l = 0) ∨ ((∀ i, ¬ cov zs i (tr (b % 2 ^ n) 15)) ∧ k = 0 ∧ s = 0 ∧ l = 0)
theorem Ans.one {zs : List Int} {b n k s l k' s' l' : Nat} (h : Ans zs b n k s l) (h' : Ans zs b n k' s' l') : k = k' ∧ s = s' ∧ l = l' := by
  rcases h with ⟨i, c, h1, rfl, rfl, rfl⟩ | ⟨i, c, h1, rfl, rfl, rfl⟩ | ⟨h0, rfl, rfl, rfl⟩
  · rcases h' with ⟨j, c', h2, rfl, rfl, rfl⟩ | ⟨j, c', h2, rfl, rfl, rfl⟩ | ⟨h0', rfl, rfl, rfl⟩
    · have := cov_one c c'; subst this; exact ⟨rfl, rfl, rfl⟩
    · have := cov_one c c'; subst this; omega
    · exact (h0' _ c).elim
  · rcases h' with ⟨j, c', h2, rfl, rfl, rfl⟩ | ⟨j, c', h2, rfl, rfl, rfl⟩ | ⟨h0', rfl, rfl, rfl⟩
    · have := cov_one c c'; subst this; omega
    · exact ⟨rfl, rfl, rfl⟩
    · exact (h0' _ c).elim
  · rcases h' with ⟨j, c', h2, rfl, rfl, rfl⟩ | ⟨j, c', h2, rfl, rfl, rfl⟩ | ⟨h0', rfl, rfl, rfl⟩
    · exact (h0 _ c').elim
    · exact (h0 _ c').elim
    · exact ⟨rfl, rfl, rfl⟩
end Go.Proofs.Ytmfacacpoajpgac
