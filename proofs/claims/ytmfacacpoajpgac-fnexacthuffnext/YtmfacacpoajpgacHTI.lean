/-
  WHAT A TABLE OF CODES TELLS, symbol after symbol. No program.
-/
import Derived.Test.YtmfacacpoajpgacHTN
namespace Go.Proofs.Ytmfacacpoajpgac
open Go.RowKit
set_option linter.unusedVariables false

/-- The low bits of x are symbol s's code. -/
def Hit (zs : List Int) (s x : Nat) : Prop := Coded zs s ∧ x % 2 ^ ln zs s = tr (num zs s) (ln zs s)
theorem Hit.one {zs : List Int} (hk : SS zs 15 ≤ 32768) {s t x : Nat} (h : Hit zs s x) (h' : Hit zs t x) : s = t :=
  cov_one ((cov_iff h.1 hk x).1 h.2) ((cov_iff h'.1 hk x).1 h'.2)
/-- The table holds the codes of the symbols below k. -/
structure TI (zs : List Int) (k : Nat) (S : Nat → Nat × Nat) (m : Nat) (L : Nat → Nat → Nat × Nat) : Prop where
  fit : ∀ x, (∃ s, s < k ∧ Hit zs s x ∧ look S L x = (ln zs s, s)) ∨ ((∀ s, s < k → ¬ Hit zs s x) ∧ look S L x = (0, 0))
  l1 : ∀ i, (S i).1 ≤ 16
  l2 : ∀ i, (S i).1 = 16 → (S i).2 < m
  l3 : ∀ i, (S i).2 ≤ 320
  l4 : ∀ i j, (L i j).1 ≤ 15 ∧ (L i j).2 ≤ 320
  inj : ∀ i j, (S i).1 = 16 → (S j).1 = 16 → (S i).2 = (S j).2 → i = j
  most : m ≤ k
theorem TI.zero (zs : List Int) : TI zs 0 (fun _ => (0, 0)) 0 (fun _ _ => (0, 0)) := by
  refine ⟨fun x => .inr ⟨fun s hs => by omega, by simp [look]⟩, fun i => by simp, fun i h => by simp at h, fun i => by simp, fun i j => by simp, fun i j h => by simp at h, Nat.le_refl _⟩
/-- A symbol without a code. -/
theorem TI.skip {zs : List Int} {k m : Nat} {S : Nat → Nat × Nat} {L : Nat → Nat → Nat × Nat} (h : TI zs k S m L) (h0 : ln zs k = 0) : TI zs (k + 1) S m L := by
  refine { h with fit := fun x => ?_, most := by have := h.most; omega }
  rcases h.fit x with ⟨s, h1, h2, h3⟩ | ⟨h1, h2⟩
  · exact .inl ⟨s, by omega, h2, h3⟩
  · refine .inr ⟨fun s hs hh => ?_, h2⟩
    by_cases e : s = k
    · subst e
      have := hh.1.pos
      omega
    · exact h1 s (by omega) hh
theorem TI.none {zs : List Int} {k m : Nat} {S : Nat → Nat × Nat} {L : Nat → Nat → Nat × Nat} (h : TI zs k S m L) (hk : SS zs 15 ≤ 32768) {x : Nat} (hx : Hit zs k x) : look S L x = (0, 0) := by
  rcases h.fit x with ⟨s, h1, h2, _⟩ | ⟨_, h2⟩
  · have := h2.one hk hx
    omega
  · exact h2
/-- One more symbol, when the look changes just where its code is. -/
theorem TI.step {zs : List Int} {k m : Nat} {S S' : Nat → Nat × Nat} {L L' : Nat → Nat → Nat × Nat} (h : TI zs k S m L) (hk : SS zs 15 ≤ 32768) (hy : ∀ x, Hit zs k x → look S' L' x = (ln zs k, k)) (hn : ∀ x, ¬ Hit zs k x → look S' L' x = look S L x) (x : Nat) :
    (∃ s, s < k + 1 ∧ Hit zs s x ∧ look S' L' x = (ln zs s, s)) ∨ ((∀ s, s < k + 1 → ¬ Hit zs s x) ∧ look S' L' x = (0, 0)) := by
  by_cases hx : Hit zs k x
  · exact .inl ⟨k, by omega, hx, hy x hx⟩
  · rw [hn x hx]
    rcases h.fit x with ⟨s, h1, h2, h3⟩ | ⟨h1, h2⟩
    · exact .inl ⟨s, by omega, h2, h3⟩
    · refine .inr ⟨fun s hs hh => ?_, h2⟩
      by_cases e : s = k
      · subst e; exact hx hh
      · exact h1 s (by omega) hh
theorem TI.short {zs : List Int} {k m X Y : Nat} {S : Nat → Nat × Nat} {L : Nat → Nat → Nat × Nat} (h : TI zs k S m L) (hk : SS zs 15 ≤ 32768) (hc : Coded zs k) (hk2 : k ≤ 320) (hX : ln zs k = X) (hY : tr (num zs k) (ln zs k) = Y) (h9 : X ≤ 9) :
    TI zs (k + 1) (fun i => if i % 2 ^ X = Y then (X, k) else S i) m L := by
  have hm : ∀ x, x % 512 % 2 ^ X = x % 2 ^ X := fun x => mod_mod x X 9 h9
  have hHit : ∀ x, Hit zs k x ↔ x % 2 ^ X = Y := fun x => by
    unfold Hit
    rw [hY, hX]
    exact ⟨fun h => h.2, fun h => ⟨hc, h⟩⟩
  refine ⟨h.step hk (fun x hx => ?_) (fun x hx => ?_), fun i => ?_, fun i => ?_, fun i => ?_, h.l4, fun i j => ?_, by have := h.most; omega⟩
  · rw [hHit] at hx
    unfold look
    simp only [hm, hx, if_true]
    rw [if_neg (by omega), hX]
  · rw [hHit] at hx
    unfold look
    simp only [hm, hx, if_false]
  · try dsimp only
    split
    · show X ≤ 16; omega
    · exact h.l1 i
  · try dsimp only
    split
    · intro e; exfalso; have : X = 16 := e; omega
    · exact h.l2 i
  · try dsimp only
    split
    · exact hk2
    · exact h.l3 i
  · try dsimp only
    split
    · intro e; exfalso; have : X = 16 := e; omega
    · split
      · intro _ e; exfalso; have : X = 16 := e; omega
      · exact h.inj i j
/-- Bits of a long code. -/
theorem long_bits (x Y X : Nat) (h9 : 9 < X) (h15 : X ≤ 15) (hY : Y < 2 ^ X) : x % 2 ^ X = Y ↔ x % 512 = Y % 512 ∧ x / 512 % 64 % 2 ^ (X - 9) = Y / 512 := by
  have e64 : x / 512 % 64 % 2 ^ (X - 9) = x / 512 % 2 ^ (X - 9) := mod_mod (x / 512) (X - 9) 6 (by omega)
  have eP : 2 ^ X = 512 * 2 ^ (X - 9) := by
    rw [show X = 9 + (X - 9) from by omega, Nat.pow_add, show 9 + (X - 9) - 9 = X - 9 from by omega]
  rw [e64]
  rw [eP] at hY ⊢
  generalize 2 ^ (X - 9) = P at *
  have h1 : x % (512 * P) = x % 512 + 512 * (x / 512 % P) := Nat.mod_mul
  rw [h1]
  constructor
  · intro e
    have h2 : x % 512 < 512 := Nat.mod_lt _ (by decide)
    generalize x % 512 = a at *
    generalize x / 512 % P = b at *
    omega
  · rintro ⟨e1, e2⟩
    rw [e1, e2]
    omega
theorem TI.long_has {zs : List Int} {k m X Y : Nat} {S : Nat → Nat × Nat} {L : Nat → Nat → Nat × Nat} (h : TI zs k S m L) (hk : SS zs 15 ≤ 32768) (hc : Coded zs k) (hk2 : k ≤ 320) (hX : ln zs k = X) (hY : tr (num zs k) (ln zs k) = Y) (hYl : Y < 2 ^ X) (h9 : 9 < X) (h16 : (S (Y % 512)).1 = 16) :
    TI zs (k + 1) S m (fun j => if j = (S (Y % 512)).2 then fun i => if i % 2 ^ (X - 9) = Y / 512 then (X, k) else L (S (Y % 512)).2 i else L j) := by
  have h15 : X ≤ 15 := hX ▸ hc.most
  have hHit : ∀ x, Hit zs k x ↔ x % 512 = Y % 512 ∧ x / 512 % 64 % 2 ^ (X - 9) = Y / 512 := fun x => by
    rw [← long_bits x Y X h9 h15 hYl]
    unfold Hit
    rw [hY, hX]
    exact ⟨fun h => h.2, fun h => ⟨hc, h⟩⟩
  refine ⟨h.step hk (fun x hx => ?_) (fun x hx => ?_), h.l1, h.l2, h.l3, fun i j => ?_, h.inj, by have := h.most; omega⟩
  · obtain ⟨e1, e2⟩ := (hHit x).1 hx
    unfold look
    rw [e1, if_pos h16]
    dsimp only
    rw [if_pos rfl, if_pos e2, hX]
  · rw [hHit] at hx
    unfold look
    by_cases e16 : (S (x % 512)).1 = 16
    · rw [if_pos e16, if_pos e16]
      dsimp only
      by_cases eq : (S (x % 512)).2 = (S (Y % 512)).2
      · have e1 := h.inj _ _ e16 h16 eq
        rw [if_pos eq, if_neg (fun e2 => hx ⟨e1, e2⟩), eq]
      · rw [if_neg eq]
    · rw [if_neg e16, if_neg e16]
  · try dsimp only
    split
    · dsimp only
      split
      · exact ⟨h15, hk2⟩
      · exact h.l4 _ _
    · exact h.l4 _ _
theorem TI.long_new {zs : List Int} {k m X Y : Nat} {S : Nat → Nat × Nat} {L : Nat → Nat → Nat × Nat} (h : TI zs k S m L) (hk : SS zs 15 ≤ 32768) (hc : Coded zs k) (hk2 : k ≤ 320) (hX : ln zs k = X) (hY : tr (num zs k) (ln zs k) = Y) (hYl : Y < 2 ^ X) (h9 : 9 < X) (h16 : ¬ (S (Y % 512)).1 = 16) :
    TI zs (k + 1) (fun i => if i = Y % 512 then (16, m) else S i) (m + 1) (fun j => if j = m then fun i => if i % 2 ^ (X - 9) = Y / 512 then (X, k) else (0, 0) else L j) := by
  have h15 : X ≤ 15 := hX ▸ hc.most
  have hHit : ∀ x, Hit zs k x ↔ x % 512 = Y % 512 ∧ x / 512 % 64 % 2 ^ (X - 9) = Y / 512 := fun x => by
    rw [← long_bits x Y X h9 h15 hYl]
    unfold Hit
    rw [hY, hX]
    exact ⟨fun h => h.2, fun h => ⟨hc, h⟩⟩
  have h00 : S (Y % 512) = (0, 0) := by
    have h1 := h.none hk (x := Y) ⟨hc, by rw [hX, ← hX, hY, hX]; exact Nat.mod_eq_of_lt hYl⟩
    unfold look at h1
    rw [if_neg h16] at h1
    exact h1
  refine ⟨h.step hk (fun x hx => ?_) (fun x hx => ?_), fun i => ?_, fun i => ?_, fun i => ?_, fun i j => ?_, fun i j => ?_, by have := h.most; omega⟩
  · obtain ⟨e1, e2⟩ := (hHit x).1 hx
    unfold look
    simp only [e1, if_true, e2, hX]
  · rw [hHit] at hx
    unfold look
    by_cases e1 : x % 512 = Y % 512
    · have e2 : ¬ x / 512 % 64 % 2 ^ (X - 9) = Y / 512 := fun e2 => hx ⟨e1, e2⟩
      simp only [e1, if_true, e2, if_false, h00]
      simp
    · simp only [e1, if_false]
      by_cases e16 : (S (x % 512)).1 = 16
      · have := h.l2 _ e16
        rw [if_pos e16, if_pos e16, if_neg (by omega)]
      · rw [if_neg e16, if_neg e16]
  · try dsimp only
    split
    · exact Nat.le_refl _
    · exact h.l1 i
  · try dsimp only
    split
    · intro _; show m < m + 1; omega
    · intro e; have := h.l2 i e; omega
  · try dsimp only
    split
    · show m ≤ 320; have := h.most; omega
    · exact h.l3 i
  · try dsimp only
    split
    · dsimp only
      split
      · exact ⟨h15, hk2⟩
      · exact ⟨Nat.zero_le _, Nat.zero_le _⟩
    · exact h.l4 _ _
  · try dsimp only
    by_cases ei : i = Y % 512
    · by_cases ej : j = Y % 512
      · intro _ _ _; omega
      · rw [if_pos ei, if_neg ej]
        intro _ e1 e2
        have h1 := h.l2 j e1
        have h2 : m = (S j).2 := e2
        omega
    · by_cases ej : j = Y % 512
      · rw [if_neg ei, if_pos ej]
        intro e1 _ e2
        have h1 := h.l2 i e1
        have h2 : (S i).2 = m := e2
        omega
      · rw [if_neg ei, if_neg ej]
        exact h.inj i j
/-- What the whole table answers. -/
theorem TI.ans {zs : List Int} {m b n k s l : Nat} {S : Nat → Nat × Nat} {L : Nat → Nat → Nat × Nat} (h : TI zs zs.length S m L) (hk : SS zs 15 ≤ 32768) (ha : AnsT (look S L (b % 2 ^ n)) n k s l) : Ans zs b n k s l := by
  rcases h.fit (b % 2 ^ n) with ⟨i, h1, h2, h3⟩ | ⟨h1, h2⟩
  · rw [h3] at ha
    have hc := (cov_iff h2.1 hk (b % 2 ^ n)).1 h2.2
    have hp := h2.1.pos
    unfold AnsT at ha
    rw [if_neg (by show ¬ ln zs i = 0; omega)] at ha
    by_cases hn : n < ln zs i
    · rw [if_pos hn] at ha
      exact .inr (.inl ⟨i, hc, hn, ha⟩)
    · rw [if_neg hn] at ha
      exact .inl ⟨i, hc, by omega, ha⟩
  · rw [h2] at ha
    unfold AnsT at ha
    rw [if_pos rfl] at ha
    refine .inr (.inr ⟨fun i hc => ?_, ha⟩)
    exact h1 i hc.1.lt ⟨hc.1, (cov_iff hc.1 hk (b % 2 ^ n)).2 hc⟩
end Go.Proofs.Ytmfacacpoajpgac
