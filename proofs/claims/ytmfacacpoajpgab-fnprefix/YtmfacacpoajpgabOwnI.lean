import Derived.Test.YtmfacacpoajpgabHTT
namespace Go.Proofs.Ytmfacacpoajpgab
open Go.RowKit
attribute [local go_sem ↓] Go.wp_at_zero Go.wp_at_succ
set_option linter.unusedVariables false

/-- Numbers that are the call's own. -/
def OwnsI (B : Nat) (w : World) (ao : Option Addr) (cap : Nat) (zs : List Int) : Prop := w.ownsRow B 2 1 (.slice ao zs.length cap) zs.length (zs.map (Value.int .i64))
theorem OwnsI.of {B : Nat} {w : World} {v : Value} {n : Nat} {zs : List Int} (h : w.ownsRow B 2 1 v n (zs.map (Value.int .i64))) : ∃ ao cap, v = .slice ao zs.length cap ∧ OwnsI B w ao cap zs := by
  have hl : n = zs.length := by have := h.1; simp at this; omega
  subst hl
  rcases h.2 with ⟨rfl, h0⟩ | ⟨g, cap, cur, rfl, h2⟩
  · refine ⟨none, 0, by rw [h0], ?_⟩
    unfold OwnsI
    rw [h0] at h ⊢
    exact h
  · exact ⟨_, cap, rfl, h⟩
theorem OwnsI.grown {B : Nat} {w w' : World} {row : Option Nat} {ao : Option Addr} {cap : Nat} {zs : List Int} (h : OwnsI B w ao cap zs) (hg : w.grownBy w' row) (hne : ∀ k, row = some k → blk ao ≠ some k) : OwnsI B w' ao cap zs := by
  refine World.ownsRow.kept h hg ?_
  cases ao with
  | none => exact .inl rfl
  | some ad => exact .inr (fun he => hne _ he.symm rfl)
theorem OwnsI.below {B : Nat} {w w' : World} {ao : Option Addr} {cap : Nat} {zs : List Int} (h : OwnsI B w ao cap zs) (hb : Below w.heap.size w w') : OwnsI B w' ao cap zs :=
  h.grown (grownBy_of_below hb none) (fun _ e => by cases e)
theorem OwnsI.base {B : Nat} {w : World} {ao : Option Addr} {cap : Nat} {zs : List Int} (h : OwnsI B w ao cap zs) : ∀ g, blk ao = some g → B ≤ g := by
  intro g e
  rcases h.2 with ⟨h1, _⟩ | ⟨g', cap', cur, h1, h2, _⟩
  · simp only [Value.slice.injEq] at h1
    rw [h1.1] at e
    cases e
  · simp only [Value.slice.injEq] at h1
    rw [h1.1] at e
    simp [blk] at e
    omega
theorem OwnsI.at {B : Nat} {w : World} {ao : Option Addr} {cap : Nat} {zs : List Int} (h : OwnsI B w ao cap zs) (h0 : 0 < zs.length) : ∃ g, ao = some ⟨g, 0, none⟩ ∧ B ≤ g ∧ g < w.heap.size ∧ zs.length ≤ cap := by
  rcases h.2 with ⟨_, h1⟩ | ⟨g', cap', cur, h1, h2, h3, h4, _⟩
  · omega
  · simp only [Value.slice.injEq, true_and] at h1
    obtain ⟨rfl, rfl⟩ := h1
    exact ⟨g', rfl, h2, (Array.getElem?_eq_some_iff.1 h3).1, h4⟩
theorem OwnsI.row {B : Nat} {w : World} {ao : Option Addr} {cap : Nat} {zs : List Int} (h : OwnsI B w ao cap zs) : Row64 w ao zs := by
  by_cases h0 : 0 < zs.length
  · obtain ⟨g, rfl, _⟩ := h.at h0
    exact Row64.owned h
  · intro i hi
    omega
theorem OwnsI.cell {B g : Nat} {w : World} {cap : Nat} {zs : List Int} (h : OwnsI B w (some ⟨g, 0, none⟩) cap zs) {k : Nat} (hk : k < zs.length) : w.cell? ⟨g, k, none⟩ = some (.int .i64 (zs.getD k 0)) := by
  have := World.ownsRow.cellAt h k (by omega)
  rw [this]
  simp [List.getD, hk]
theorem OwnsI.set {B g : Nat} {w : World} {cap : Nat} {zs : List Int} (h : OwnsI B w (some ⟨g, 0, none⟩) cap zs) (k : Nat) (x : Int) : OwnsI B (w.setCell ⟨g, k, none⟩ (.int .i64 x)) (some ⟨g, 0, none⟩) cap (zs.set k x) := by
  have h1 := (World.ownsRow.stored h k (.int .i64 x)).1
  unfold OwnsI
  rw [List.length_set, List.map_set]
  exact h1
theorem ownI0 (w : World) (B : Nat) (hB : B ≤ w.heap.size) : OwnsI B (w.alloc (.cells #[] 2)) (some ⟨w.heap.size, 0, none⟩) 0 [] :=
  World.ownsRow_lit w #[] 0 hB (by unfold maxLen; omega) rfl
theorem blk_own64 (ao : Option Addr) (n cap : Nat) : (Value.slice ao n cap).ownBlock = blk ao := by cases ao <;> rfl
theorem news_one (w : World) (x : Value) (t : TypeId) : ∀ j u, ([x] : List Value)[j]? = some u → (w.alloc (.cells #[x] t)).cell? ((⟨w.heap.size, 0, none⟩ : Addr).add j) = some u := by
  intro j u h
  exact alloc_at w #[x] t j u h
theorem Try.info_i64d : (Try.prog.info? 2).map (fun i => (i.zero, i.size, i.bytes)) = some (some (.int .i64 0), 1, 8) := by kernel_rfl
theorem OwnsI.free {B g : Nat} {w : World} {cap : Nat} {zs : List Int} (h : OwnsI B w (some ⟨g, 0, none⟩) cap zs) (k : Nat) : w.frozen? ⟨g, k, none⟩ = false := World.ownsRow.frozenAt h k
theorem OwnsI.lower {B B' : Nat} {w : World} {ao : Option Addr} {cap : Nat} {zs : List Int} (h : OwnsI B w ao cap zs) (hB : B' ≤ B) : OwnsI B' w ao cap zs := by
  refine ⟨h.1, ?_⟩
  rcases h.2 with h2 | ⟨g, c, cur, h3, h4, h5⟩
  · exact .inl h2
  · exact .inr ⟨g, c, cur, h3, Nat.le_trans hB h4, h5⟩
end Go.Proofs.Ytmfacacpoajpgab
