import Derived.Test.YtmfacacpoajpgacHTP
namespace Go.Proofs.Ytmfacacpoajpgac
open Go.RowKit
attribute [local go_sem ↓] Go.wp_at_zero Go.wp_at_succ
set_option linter.unusedVariables false

theorem Upd.keeps {w w2 w3 : World} {p m : Nat} {S : Nat → Nat × Nat} {L : Nat → Nat → Nat × Nat} (hT : Tab w p S m L) (hb : Below w.heap.size w w2) (hU : Upd w2 w3 p) (k : Nat) (hk : w.heap.size ≤ k) (hk2 : k < w2.heap.size) : w3.heap[k]? = w2.heap[k]? := by
  have hp := hT.short.lt
  obtain ⟨lo, c, xs, h2, h3, h4⟩ := hT.long
  have e := (World.cell?_of_block (a := ⟨p, 1024, none⟩) ((grownBy_of_below hb none).block p hp (by simp))).trans h2
  refine hU.block k hk2 (by omega) (fun g m' c' h => ?_)
  rw [e] at h
  have h5 := Option.some.inj h
  rw [h5] at h3
  have := (h3.lt g rfl).2
  omega
/-- spread into one of long's arrays. -/
theorem Tab.long_set {w w' : World} {p m q g c : Nat} {S : Nat → Nat × Nat} {L : Nat → Nat → Nat × Nat} {F : Nat → Nat × Nat} (h : Tab w p S m L) (hq : q < m)
    (hc : w.cell? ⟨p, 1024, none⟩ = some (.slice (some ⟨g, 0, none⟩) m c)) (hE : Ents w' g (q * 128) 64 F) (hO : Only w w' g (q * 128) (64 * 2)) : Tab w' p S m (fun j => if j = q then F else L j) := by
  obtain ⟨h1, lo, c', xs', h2, h3, h4⟩ := h
  rw [hc] at h2
  have e := Option.some.inj h2
  simp only [Value.slice.injEq, true_and] at e
  obtain ⟨rfl, rfl⟩ := e
  have hpg : p + 1 ≤ g := (h3.lt g rfl).1
  obtain ⟨ys, h3'⟩ := hO.owns _ _ _ _ _ _ h3
  refine ⟨h1.grown hO.grown (by simp; omega), some ⟨g, 0, none⟩, c, ys, (World.cell?_of_block (a := ⟨p, 1024, none⟩) (hO.grown.block p h1.lt (by simp; omega))).trans hc, h3', fun j hj => ⟨g, rfl, by omega, ?_⟩⟩
  by_cases hjq : j = q
  · subst hjq
    rw [if_pos rfl]
    exact hE
  · rw [if_neg hjq]
    obtain ⟨g', e', _, h5⟩ := h4 j hj
    simp only [Option.some.injEq, Addr.mk.injEq, and_true] at e'
    subst e'
    refine ⟨hE.lt, fun i hi => ?_, fun i hi => ?_, hE.free⟩
    · rw [hO.rest _ (by omega)]; exact h5.at0 i hi
    · rw [hO.rest _ (by omega)]; exact h5.at1 i hi

end Go.Proofs.Ytmfacacpoajpgac
