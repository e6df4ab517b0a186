/-
  WHAT FnPrefix ASKS, of codes alone. No program.
-/
import Derived.Test.YtmfacacpoajpgabHTI
namespace Go.Proofs.Ytmfacacpoajpgab
open Go.RowKit
set_option linter.unusedVariables false

/-- The code as bits. -/
def cb (zs : List Int) (s : Nat) : Nat := tr (num zs s) (ln zs s)
theorem cb_lt (zs : List Int) (s : Nat) : cb zs s < 2 ^ ln zs s := tr_lt _ _
theorem code_cb {zs : List Int} {s : Nat} (h : ln zs s ≠ 0) : code zs s = (ln zs s, cb zs s) := by rw [code_ln, if_neg h]; rfl
theorem hit_self {zs : List Int} {s : Nat} (h : Coded zs s) : Hit zs s (cb zs s) := ⟨h, Nat.mod_eq_of_lt (cb_lt zs s)⟩
/-- No code begins another. -/
theorem no_begin {zs : List Int} (hk : SS zs 15 ≤ 32768) {s t : Nat} (hs : Coded zs s) (ht : Coded zs t) (hne : s ≠ t) : cb zs s % 2 ^ ln zs t ≠ cb zs t := fun e =>
  hne ((hit_self hs).one hk ⟨ht, e⟩)
/-- Each code is read as its symbol, whatever follows. -/
theorem read_self {zs : List Int} (hk : SS zs 15 ≤ 32768) {s : Nat} (hs : Coded zs s) (J : Nat) {k s' l : Nat} (h : Ans zs (cb zs s + J * 2 ^ ln zs s) 60 k s' l) : k = 1 ∧ s' = s ∧ l = ln zs s := by
  have h15 := hs.most
  have hc : cov zs s (tr ((cb zs s + J * 2 ^ ln zs s) % 2 ^ 60) 15) := by
    refine (cov_iff hs hk _).1 ?_
    rw [mod_mod _ _ _ (by omega), Nat.add_mul_mod_self_right]
    exact Nat.mod_eq_of_lt (cb_lt zs s)
  exact h.one (.inl ⟨s, hc, by omega, rfl, rfl, rfl⟩)
/-- With the last bit missing it is short. -/
theorem read_short {zs : List Int} (hk : SS zs 15 ≤ 32768) {s : Nat} (hs : Coded zs s) {k s' l : Nat} (h : Ans zs (cb zs s) (ln zs s - 1) k s' l) : k = 2 := by
  have h15 := hs.most
  have hp := hs.pos
  have hcs : cov zs s (tr (cb zs s) 15) := (cov_iff hs hk _).1 (hit_self hs).2
  have hlt : tr (cb zs s) 15 < SS zs 15 := Nat.lt_of_lt_of_le hcs.2.2 (Nat.le_trans (bg_end hs) (SS_mono zs h15))
  have hx : tr (cb zs s % 2 ^ (ln zs s - 1)) 15 ≤ tr (cb zs s) 15 := by
    rw [tr_zero _ _ (by omega), ← tr_div (cb zs s) (ln zs s - 1) 15 (by omega)]
    exact Nat.div_mul_le_self _ _
  obtain ⟨i, hi⟩ := cov_ex zs (tr (cb zs s % 2 ^ (ln zs s - 1)) 15) 15 (Nat.le_refl _) (by omega)
  have hli : ln zs s - 1 < ln zs i := by
    refine Nat.lt_of_not_le fun hle => ?_
    have h1 := (cov_iff hi.1 hk _).2 hi
    rw [mod_mod _ _ _ hle] at h1
    have h2 : i = s := Hit.one hk (x := cb zs s) ⟨hi.1, h1⟩ (hit_self hs)
    subst h2
    omega
  exact (h.one (.inr (.inl ⟨i, hi, hli, rfl, rfl, rfl⟩))).1
/-- A complete code reads any bits. -/
theorem read_any {zs : List Int} (hk : SS zs 15 = 32768) (b n : Nat) (hn : 15 ≤ n) {k s' l : Nat} (h : Ans zs b n k s' l) : k = 1 := by
  obtain ⟨i, hi⟩ := cov_ex zs (tr (b % 2 ^ n) 15) 15 (Nat.le_refl _) (by rw [hk]; exact tr_lt _ 15)
  have := hi.1.most
  exact (h.one (.inl ⟨i, hi, by omega, rfl, rfl, rfl⟩)).1
theorem full_SS {zs : List Int} (h : okC zs = true) (h1 : hk zs = 1) : SS zs 15 = 32768 := by
  obtain ⟨h3, h4, h5⟩ := okC_out h
  rw [SS_kr h3]
  have hB : okB zs = true := okB_of h4 h3
  rw [hk, hB, if_pos rfl, hkind] at h1
  split at h1
  · omega
  · split at h1
    · omega
    · split at h1
      · assumption
      · split at h1 <;> omega
theorem AnsN.ans {zs : List Int} {b n k s l : Nat} (h : okC zs = true) (hn : n ≤ 64) (ha : AnsN zs b n k s l) : Ans zs b n k s l := by
  unfold AnsN at ha
  rw [if_pos ⟨h, by omega, by omega⟩] at ha
  exact ha
theorem okC_of {zs : List Int} (h0 : ¬ hk zs = 0) (h2 : ¬ hk zs = 2) : okC zs = true := by
  have : okB zs = true := by
    cases h : okB zs with
    | true => rfl
    | false => exact absurd (by rw [hk, h]; rfl) h0
  simp [okC, this, h2]
theorem okC_not {zs : List Int} (h : hk zs = 0 ∨ hk zs = 2) : okC zs = false := by
  rcases h with h | h
  · cases hB : okB zs with
    | false => simp [okC, hB]
    | true =>
      exfalso
      rw [hk, hB, if_pos rfl, hkind] at h
      repeat' split at h
      all_goals omega
  · simp [okC, h]
end Go.Proofs.Ytmfacacpoajpgab
