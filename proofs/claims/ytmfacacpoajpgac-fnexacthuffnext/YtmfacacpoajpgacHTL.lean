import Derived.Test.YtmfacacpoajpgacHTN
namespace Go.Proofs.Ytmfacacpoajpgac
open Go.RowKit
attribute [local go_sem ↓] Go.wp_at_zero Go.wp_at_succ
set_option linter.unusedVariables false

/-- Nothing but the table's two blocks has been written. -/
structure Upd (w w' : World) (p : Nat) : Prop where
  os : w'.os = w.os
  tape : w'.tape = w.tape
  output : w'.output = w.output
  size : w.heap.size ≤ w'.heap.size
  block : ∀ k, k < w.heap.size → k ≠ p → (∀ g m c, w.cell? ⟨p, 1024, none⟩ = some (.slice (some ⟨g, 0, none⟩) m c) → k ≠ g) → w'.heap[k]? = w.heap[k]?

theorem Ents.other {w : World} {g o n : Nat} {F : Nat → Nat × Nat} (h : Ents w g o n F) {f : Nat} (hf : f < o ∨ o + n * 2 ≤ f) (v : Value) : Ents (w.setCell ⟨g, f, none⟩ v) g o n F := by
  refine ⟨by simpa using h.lt, ?_, ?_, fun o => by rw [World.frozen?_setCell]; exact h.free o⟩
  · intro i hi
    rw [World.cell?_setCell_other _ _ _ _ (by first | (simp; done) | (simp; omega))]
    exact h.at0 i hi
  · intro i hi
    rw [World.cell?_setCell_other _ _ _ _ (by first | (simp; done) | (simp; omega))]
    exact h.at1 i hi
theorem ownsRow_lt {w : World} {B g N c k : Nat} {e : TypeId} {xs : List Value} (h : w.ownsRow B e k (.slice (some ⟨g, 0, none⟩) N c) N xs) : g < w.heap.size := (h.lt g rfl).2
/-- A row of arrays with one more behind it. -/
theorem long_push {w w4 : World} {B B' p m c c4 g4 : Nat} {lo : Option Addr} {xs news : List Value} {e : TypeId} {L : Nat → Nat → Nat × Nat}
    (how : w.ownsRow B e 128 (.slice lo m c) m xs) (hen : ∀ j, j < m → ∃ g, lo = some ⟨g, 0, none⟩ ∧ p < g ∧ Ents w g (j * 128) 64 (L j))
    (hown : w4.ownsRow B' e 128 (.slice (some ⟨g4, 0, none⟩) (m + 1) c4) (m + 1) (xs ++ news)) (h0 : ∀ i, i < 64 → news[i * 2]? = some (.int .i8 0)) (h1 : ∀ i, i < 64 → news[i * 2 + 1]? = some (.int .i16 0)) :
    ∀ j, j < m + 1 → Ents w4 g4 (j * 128) 64 (if j = m then fun _ => (0, 0) else L j) := by
  intro j hj
  have hxl : xs.length = m * 128 := how.1
  by_cases hjm : j = m
  · subst hjm
    rw [if_pos rfl]
    refine ⟨ownsRow_lt hown, fun i hi => ?_, fun i hi => ?_, fun o => hown.frozenAt o⟩
    · rw [hown.cellAt _ (by omega), List.getElem?_append_right (by omega), hxl, Nat.add_sub_cancel_left, h0 i hi]
      rfl
    · rw [hown.cellAt _ (by omega), List.getElem?_append_right (by omega), hxl, Nat.add_assoc, Nat.add_sub_cancel_left, h1 i hi]
      rfl
  · rw [if_neg hjm]
    obtain ⟨g, rfl, _, hE⟩ := hen j (by omega)
    refine ⟨ownsRow_lt hown, fun i hi => ?_, fun i hi => ?_, fun o => hown.frozenAt o⟩
    · rw [hown.cellAt _ (by omega), List.getElem?_append_left (by omega), ← how.cellAt _ (by omega)]
      exact hE.at0 i hi
    · rw [hown.cellAt _ (by omega), List.getElem?_append_left (by omega), ← how.cellAt _ (by omega)]
      exact hE.at1 i hi
theorem wrap_i16 (m : Nat) (h : m ≤ 512) : IntKind.i16.wrap (m : Int) = (m : Int) := by simp [IntKind.wrap, IntKind.bits, IntKind.signed]; omega

theorem Try.info_arr : (Try.prog.info? 99).map (fun i => (i.zero, i.size, i.bytes)) = some (some (.agg Try.zeroCells99), 128, 256) := by kernel_rfl
theorem zeroArr_size : Try.zeroCells99.size = 128 := by kernel_rfl
set_option maxRecDepth 100000 in
set_option maxHeartbeats 6400000 in
/-- link where there is one. -/
theorem link_has (p m f : Nat) (S : Nat → Nat × Nat) (L : Nat → Nat → Nat × Nat) (w : World) (hT : Tab w p S m L) (hf : f < 512) (h16 : (S f).1 = 16) (hl2 : (S f).2 ≤ 512) :
    Calls Try.prog 69 #[.pointer (some ⟨p, 0, none⟩), .int .u64 f] w fun e w' => e = .returned (.int .i16 ((S f).2 : Nat)) ∧ w' = w := by
  obtain ⟨E1, hE1⟩ : ∃ e, (S f).2 = e := ⟨_, rfl⟩
  have c0 := hT.short.at0 f hf
  have c1 := hT.short.at1 f hf
  rw [h16] at c0
  rw [hE1] at c1 hl2
  rw [hE1]
  rw [Nat.zero_add] at c0 c1
  have hpw := hT.short.lt
  clear hT hE1 h16
  go_enter Try.func69, Try.ntmps69
  go_wp2_with fail
  go_ret
  exact ⟨rfl, rfl⟩

end Go.Proofs.Ytmfacacpoajpgac
