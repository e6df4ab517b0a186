import Derived.Test.YtmfacacpoajpgabHN
import Derived.Test.YtmfacacpoajpgabHCL
namespace Go.Proofs.Ytmfacacpoajpgab
open Go.RowKit
attribute [local go_sem ↓] Go.wp_at_zero Go.wp_at_succ
set_option linter.unusedVariables false

theorem fs_fst (f : Nat → Nat) : ∀ l, fs f l = fst f l
  | 0 => rfl
  | 1 => rfl
  | l + 2 => by rw [fs, fst, fs_fst f (l + 1)]
theorem code_ln (zs : List Int) (i : Nat) : code zs i = if ln zs i = 0 then (0, 0) else (ln zs i, tr (num zs i) (ln zs i)) := by
  unfold code num ln
  rw [fs_fst]
theorem okC_out {zs : List Int} (h : okC zs = true) : okL zs ∧ zs.length ≤ 320 ∧ SS zs 15 ≤ 32768 := by
  simp only [okC, Bool.and_eq_true, decide_eq_true_eq] at h
  obtain ⟨h1, h2⟩ := h
  obtain ⟨h3, h4⟩ := okB_ok h1
  refine ⟨h4, h3, ?_⟩
  rw [SS_kr h4]
  rw [hk, h1, if_pos rfl, hkind] at h2
  by_cases n0 : nz zs = 0
  · have := (none_has zs h4 n0).1
    omega
  · rw [if_neg n0] at h2
    by_cases k0 : 32768 < kr zs
    · rw [if_pos k0] at h2; omega
    · omega

/-- A NextRes in memory. -/
def Res3 (w : World) (p : Nat) (a b c : Int) : Prop :=
  w.cell? ⟨p, 0, none⟩ = some (.int .i64 a) ∧ w.cell? ⟨p, 1, none⟩ = some (.int .i64 b) ∧ w.cell? ⟨p, 2, none⟩ = some (.int .i64 c) ∧
    w.frozen? ⟨p, 0, none⟩ = false ∧ w.frozen? ⟨p, 1, none⟩ = false ∧ w.frozen? ⟨p, 2, none⟩ = false
theorem res3_new (w : World) (a b c : Int) (t : TypeId) : Res3 (w.alloc (.cells #[.int .i64 a, .int .i64 b, .int .i64 c] t)) w.heap.size a b c := by
  simp [Res3, go_sem]
theorem Res3.lt {w : World} {p : Nat} {a b c : Int} (h : Res3 w p a b c) : p < w.heap.size := World.block_lt_of_cell? w _ h.1
theorem Res3.grown {w w' : World} {row : Option Nat} {p : Nat} {a b c : Int} (h : Res3 w p a b c) (hg : w.grownBy w' row) (hne : some p ≠ row) : Res3 w' p a b c := by
  have e := hg.block p h.lt hne
  obtain ⟨h1, h2, h3, f1, f2, f3⟩ := h
  exact ⟨(World.cell?_of_block (w := w) e).trans h1, (World.cell?_of_block (w := w) e).trans h2, (World.cell?_of_block (w := w) e).trans h3,
    (World.frozen?_of_block (w := w) e).trans f1, (World.frozen?_of_block (w := w) e).trans f2, (World.frozen?_of_block (w := w) e).trans f3⟩
theorem Res3.below {w w' : World} {p : Nat} {a b c : Int} (h : Res3 w p a b c) (hb : Below w.heap.size w w') : Res3 w' p a b c := h.grown (grownBy_of_below hb none) (by simp)
theorem res3_set {w : World} {p : Nat} {a b c : Int} (h : Res3 w p a b c) (a' b' c' : Int) :
    Res3 (((w.setCell ⟨p, 0, none⟩ (.int .i64 a')).setCell ⟨p, 1, none⟩ (.int .i64 b')).setCell ⟨p, 2, none⟩ (.int .i64 c')) p a' b' c' ∧
      w.grownBy (((w.setCell ⟨p, 0, none⟩ (.int .i64 a')).setCell ⟨p, 1, none⟩ (.int .i64 b')).setCell ⟨p, 2, none⟩ (.int .i64 c')) (some p) := by
  obtain ⟨c0, c1, c2, f0, f1, f2⟩ := h
  refine ⟨⟨?_, ?_, ?_, ?_, ?_, ?_⟩, ?_⟩
  · rw [World.cell?_setCell_other _ _ _ _ (by simp), World.cell?_setCell_other _ _ _ _ (by simp), World.cell?_setCell_same _ _ _ c0]
  · rw [World.cell?_setCell_other _ _ _ _ (by simp), World.cell?_setCell_same _ _ _ (u := .int .i64 b) (by rw [World.cell?_setCell_other _ _ _ _ (by simp)]; exact c1)]
  · rw [World.cell?_setCell_same _ _ _ (u := .int .i64 c) (by rw [World.cell?_setCell_other _ _ _ _ (by simp), World.cell?_setCell_other _ _ _ _ (by simp)]; exact c2)]
  · simp [World.frozen?_setCell, f0]
  · simp [World.frozen?_setCell, f1]
  · simp [World.frozen?_setCell, f2]
  · exact grownBy_trans (grownBy_trans (grownBy_setCell w ⟨p, 0, none⟩ _) (grownBy_setCell _ ⟨p, 1, none⟩ _)) (grownBy_setCell _ ⟨p, 2, none⟩ _)
/-- Some code behind s begins with the first l bits. -/
def begs (zs : List Int) (b l k : Nat) : Prop := ∃ s, s < k ∧ Coded zs s ∧ l < ln zs s ∧ tr (num zs s) (ln zs s) % 2 ^ l = b % 2 ^ l
theorem Ans.bad {zs : List Int} {b n : Nat} (h : ∀ i, ¬ cov zs i (tr (b % 2 ^ n) 15)) : Ans zs b n 0 0 0 := .inr (.inr ⟨h, rfl, rfl, rfl⟩)

end Go.Proofs.Ytmfacacpoajpgab
