import Derived.Test.YtmfacacpoajpgacMem
namespace Go.Proofs.Ytmfacacpoajpgac
open Go.RowKit

/-- From 'ao' on lie the numbers zs. -/
def Row64 (w : World) (ao : Option Addr) (zs : List Int) : Prop :=
  ∀ i, i < zs.length → ∃ b off, ao = some ⟨b, off, none⟩ ∧ w.cell? ⟨b, off + i, none⟩ = some (.int .i64 (zs.getD i 0))
theorem Row64.nil (w : World) (ao : Option Addr) : Row64 w ao [] := fun i hi => absurd hi (by simp)
theorem Row64.at {w : World} {ao : Option Addr} {zs : List Int} (h : Row64 w ao zs) {k : Nat} (hk : k < zs.length) :
    ∃ b off, ao = some ⟨b, off, none⟩ ∧ ∀ i, i < zs.length → w.cell? ⟨b, off + i, none⟩ = some (.int .i64 (zs.getD i 0)) := by
  obtain ⟨b, off, rfl, _⟩ := h k hk
  refine ⟨b, off, rfl, fun i hi => ?_⟩
  obtain ⟨b', off', e, hc⟩ := h i hi
  simp only [Option.some.injEq, Addr.mk.injEq, and_true] at e
  obtain ⟨rfl, rfl⟩ := e
  exact hc
theorem Row64.of {w : World} {b off : Nat} {zs : List Int} (h : ∀ i, i < zs.length → w.cell? ⟨b, off + i, none⟩ = some (.int .i64 (zs.getD i 0))) : Row64 w (some ⟨b, off, none⟩) zs :=
  fun i hi => ⟨b, off, rfl, h i hi⟩
theorem Row64.grown {w w' : World} {row : Option Nat} {ao : Option Addr} {zs : List Int} (h : Row64 w ao zs) (hg : w.grownBy w' row) (hne : ∀ ad, ao = some ad → some ad.block ≠ row) : Row64 w' ao zs := by
  intro i hi
  obtain ⟨b, off, rfl, hc⟩ := h i hi
  exact ⟨b, off, rfl, hg.cell hc (hne ⟨b, off, none⟩ rfl)⟩
theorem Row64.below {w w' : World} {ao : Option Addr} {zs : List Int} (h : Row64 w ao zs) (hb : Below w.heap.size w w') : Row64 w' ao zs := by
  intro i hi
  obtain ⟨b, off, rfl, hc⟩ := h i hi
  exact ⟨b, off, rfl, by rw [hb.cell (World.block_lt_of_cell? w _ hc)]; exact hc⟩
theorem Row64.drewN {w : World} {ao : Option Addr} {zs : List Int} (h : Row64 w ao zs) (k : Nat) : Row64 (w.drewN k) ao zs := h
theorem Row64.owned {w : World} {base e g n cap : Nat} {zs : List Int} (h : w.ownsRow base e 1 (.slice (some ⟨g, 0, none⟩) n cap) n (zs.map (Value.int .i64))) : Row64 w (some ⟨g, 0, none⟩) zs := by
  have hl : n = zs.length := by have := h.1; simp at this; omega
  subst hl
  refine Row64.of fun i hi => ?_
  rw [Nat.zero_add, h.cellAt i (by omega)]
  simp [List.getD, hi]
theorem copied_map64 (zs : List Int) (k : Nat) (h : k < zs.length) : ((copied zs k).map (Value.int .i64)).set k (.int .i64 (zs.getD k 0)) = (copied zs (k + 1)).map (Value.int .i64) := by
  rw [← copied_succ zs k h, List.map_set]

end Go.Proofs.Ytmfacacpoajpgac
