/-
  FIVE CELLS OF A BLOCK. No program.
-/
import Derived.Test.YtmfacacpoajpgabOwn
namespace Go.Proofs.Ytmfacacpoajpgab
open Go.RowKit

def Five (w : World) (p : Nat) (x0 x1 x2 x3 x4 : Value) : Prop :=
  (w.cell? ⟨p, 0, none⟩ = some x0 ∧ w.cell? ⟨p, 1, none⟩ = some x1 ∧ w.cell? ⟨p, 2, none⟩ = some x2 ∧ w.cell? ⟨p, 3, none⟩ = some x3 ∧ w.cell? ⟨p, 4, none⟩ = some x4) ∧
  (w.frozen? ⟨p, 0, none⟩ = false ∧ w.frozen? ⟨p, 1, none⟩ = false ∧ w.frozen? ⟨p, 2, none⟩ = false ∧ w.frozen? ⟨p, 3, none⟩ = false ∧ w.frozen? ⟨p, 4, none⟩ = false)

theorem five_new (w : World) (x0 x1 x2 x3 x4 : Value) (t : TypeId) : Five (w.alloc (.cells #[x0, x1, x2, x3, x4] t)) w.heap.size x0 x1 x2 x3 x4 := by
  simp [Five, go_sem]
theorem Five.all {w : World} {p : Nat} {x0 x1 x2 x3 x4 : Value} (h : Five w p x0 x1 x2 x3 x4) : w.cell? ⟨p, 0, none⟩ = some x0 ∧ w.cell? ⟨p, 1, none⟩ = some x1 ∧ w.cell? ⟨p, 2, none⟩ = some x2 ∧ w.cell? ⟨p, 3, none⟩ = some x3 ∧ w.cell? ⟨p, 4, none⟩ = some x4 := h.1
theorem Five.grown {w w' : World} {row : Option Nat} {p : Nat} {x0 x1 x2 x3 x4 : Value} (h : Five w p x0 x1 x2 x3 x4) (hg : w.grownBy w' row) (hne : some p ≠ row) : Five w' p x0 x1 x2 x3 x4 := by
  obtain ⟨⟨h0, h1, h2, h3, h4⟩, g0, g1, g2, g3, g4⟩ := h
  have hp : p < w.heap.size := World.block_lt_of_cell? w _ h0
  have e := hg.block p hp hne
  exact ⟨⟨(World.cell?_of_block (w := w) e).trans h0, (World.cell?_of_block (w := w) e).trans h1, (World.cell?_of_block (w := w) e).trans h2, (World.cell?_of_block (w := w) e).trans h3, (World.cell?_of_block (w := w) e).trans h4⟩,
    (World.frozen?_of_block (w := w) e).trans g0, (World.frozen?_of_block (w := w) e).trans g1, (World.frozen?_of_block (w := w) e).trans g2, (World.frozen?_of_block (w := w) e).trans g3, (World.frozen?_of_block (w := w) e).trans g4⟩

/-- All five written. -/
def five (w : World) (p : Nat) (y0 y1 y2 y3 y4 : Value) : World := ((((w.setCell ⟨p, 0, none⟩ y0).setCell ⟨p, 1, none⟩ y1).setCell ⟨p, 2, none⟩ y2).setCell ⟨p, 3, none⟩ y3).setCell ⟨p, 4, none⟩ y4
theorem five_set {w : World} {p : Nat} {x0 x1 x2 x3 x4 : Value} (h : Five w p x0 x1 x2 x3 x4) (y0 y1 y2 y3 y4 : Value) :
    Five (five w p y0 y1 y2 y3 y4) p y0 y1 y2 y3 y4 ∧ w.grownBy (five w p y0 y1 y2 y3 y4) (some p) ∧ (five w p y0 y1 y2 y3 y4).heap.size = w.heap.size := by
  obtain ⟨⟨h0, h1, h2, h3, h4⟩, g0, g1, g2, g3, g4⟩ := h
  have o : ∀ (v : World) (i j : Nat) (y : Value), i ≠ j → (v.setCell ⟨p, i, none⟩ y).cell? ⟨p, j, none⟩ = v.cell? ⟨p, j, none⟩ := fun v i j y hij => World.cell?_setCell_other _ _ _ _ (fun e => hij (congrArg Addr.off e))
  unfold five
  refine ⟨⟨⟨?_, ?_, ?_, ?_, ?_⟩, ?_, ?_, ?_, ?_, ?_⟩, ?_, by simp⟩
  · rw [o _ 4 0 _ (by decide), o _ 3 0 _ (by decide), o _ 2 0 _ (by decide), o _ 1 0 _ (by decide), World.cell?_setCell_same _ _ _ h0]
  · rw [o _ 4 1 _ (by decide), o _ 3 1 _ (by decide), o _ 2 1 _ (by decide), World.cell?_setCell_same _ _ _ (u := x1) (by rw [o _ 0 1 _ (by decide)]; exact h1)]
  · rw [o _ 4 2 _ (by decide), o _ 3 2 _ (by decide), World.cell?_setCell_same _ _ _ (u := x2) (by rw [o _ 1 2 _ (by decide), o _ 0 2 _ (by decide)]; exact h2)]
  · rw [o _ 4 3 _ (by decide), World.cell?_setCell_same _ _ _ (u := x3) (by rw [o _ 2 3 _ (by decide), o _ 1 3 _ (by decide), o _ 0 3 _ (by decide)]; exact h3)]
  · rw [World.cell?_setCell_same _ _ _ (u := x4) (by rw [o _ 3 4 _ (by decide), o _ 2 4 _ (by decide), o _ 1 4 _ (by decide), o _ 0 4 _ (by decide)]; exact h4)]
  · simp [World.frozen?_setCell, g0]
  · simp [World.frozen?_setCell, g1]
  · simp [World.frozen?_setCell, g2]
  · simp [World.frozen?_setCell, g3]
  · simp [World.frozen?_setCell, g4]
  · exact grownBy_trans (grownBy_trans (grownBy_trans (grownBy_trans (grownBy_setCell w ⟨p, 0, none⟩ _) (grownBy_setCell _ ⟨p, 1, none⟩ _)) (grownBy_setCell _ ⟨p, 2, none⟩ _)) (grownBy_setCell _ ⟨p, 3, none⟩ _)) (grownBy_setCell _ ⟨p, 4, none⟩ _)

end Go.Proofs.Ytmfacacpoajpgab
