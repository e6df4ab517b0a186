import Derived.Test.YtboniidgoepdcaaGreatDoorMAU
import Derived.Test.YtboniidgoepdcaaGreatDoorMBE
import Derived.Test.YtboniidgoepdcaaGreatDoorMBS
namespace Go.Proofs.YtboniidgoepdcaaGreatDoor
open Go.RowKit
attribute [local go_sem ↓] Go.wp_at_zero Go.wp_at_succ
set_option linter.unusedVariables false

/-- An inflater that was just made. -/
structure INew (w : World) (q p g : Nat) : Prop where
  c0 : w.cell? ⟨q, 0, none⟩ = some (.pointer (some ⟨p, 0, none⟩))
  c1 : w.cell? ⟨q, 1, none⟩ = some (inow q .nilFunc 7)
  num : ∀ k, isNum k → w.cell? ⟨q, k, none⟩ = some (.int .i64 0)
  c25 : w.cell? ⟨q, 25, none⟩ = some (.pointer none)
  c26 : w.cell? ⟨q, 26, none⟩ = some (.slice none 0 0)
  c28 : w.cell? ⟨q, 28, none⟩ = some (inow q .nilFunc 6)
  c29 : w.cell? ⟨q, 29, none⟩ = some (.pointer (some ⟨g, 0, none⟩))
  c30 : w.cell? ⟨q, 30, none⟩ = some (.slice none 0 0)
  c31 : w.cell? ⟨q, 31, none⟩ = some (.bool false)
  c32 : w.cell? ⟨q, 32, none⟩ = some (.int .i64 0)
  c33 : w.cell? ⟨q, 33, none⟩ = some (.pointer none)
  c34 : w.cell? ⟨q, 34, none⟩ = some (.pointer none)
  c35 : w.cell? ⟨q, 35, none⟩ = some (.int .i64 0)
  c36 : w.cell? ⟨q, 36, none⟩ = some (.int .i64 0)
  c37 : w.cell? ⟨q, 37, none⟩ = some (.int .i64 0)
  c38 : w.cell? ⟨q, 38, none⟩ = some .nilFunc
  f : ∀ k, w.frozen? ⟨q, k, none⟩ = false
theorem INew.same {w w' : World} {q p g : Nat} (h : INew w q p g) (hb : w'.heap[q]? = w.heap[q]?) : INew w' q p g := by
  have hc : ∀ o, w'.cell? ⟨q, o, none⟩ = w.cell? ⟨q, o, none⟩ := fun o => World.cell?_of_block (w := w) (a := ⟨q, o, none⟩) hb
  exact ⟨(hc 0).trans h.c0, (hc 1).trans h.c1, fun k hk => (hc k).trans (h.num k hk), (hc 25).trans h.c25, (hc 26).trans h.c26, (hc 28).trans h.c28, (hc 29).trans h.c29, (hc 30).trans h.c30, (hc 31).trans h.c31, (hc 32).trans h.c32, (hc 33).trans h.c33, (hc 34).trans h.c34, (hc 35).trans h.c35, (hc 36).trans h.c36, (hc 37).trans h.c37, (hc 38).trans h.c38, fun k => (World.frozen?_of_block (w := w) (a := ⟨q, k, none⟩) hb).trans (h.f k)⟩
/-- Where inflating begins. -/
def ic0 (t : List Int) : IC := ⟨7, lc0 0, t, [], false, 0, false, [], [], 0, 0, 0⟩
theorem INew.mem {w : World} {q p hB g s B : Nat} {zs t : List Int} (h : INew w q p g) (hne : q ≠ p) (hbq : hB ≠ q) (hgq : g ≠ q) (hgp : g ≠ p) (hgb : g ≠ hB) (hG : 2 ≤ B) (bq : B ≤ q) (bp : B ≤ p) (bg : B ≤ g) (bb : 2 ≤ hB) (hbw : hB < w.heap.size) (hs : 0 < s ∧ s ≤ 32768) (hr : Rd w p hB zs 0) (hT : RingT w g s t) (hGl : Glob w) : IMem q p hB g s B zs .nilFunc w (ic0 t) := by
  refine ⟨⟨hne, hbq, ⟨by omega, by omega, bb⟩, hr, h.c0, ⟨_, h.c1⟩, h.num, ⟨_, h.c25⟩, h.c28, h.f, ⟨w.heap.size, _, World.block_lt_of_cell? w _ h.c0, hr.lt, hbw, Nat.le_refl _, h.c26, ⟨rfl, .inl ⟨rfl, rfl⟩⟩, fun h1 => absurd h1 (by show ¬ (1 : Nat) ≤ 0; omega), fun h1 => absurd h1 (by show ¬ (4 : Nat) ≤ 0; omega)⟩, hGl.g0, hGl.g1⟩, ⟨fun h1 => absurd h1 (by show ¬ (7 : Nat) ≤ 6; omega), fun _ => rfl⟩, ⟨hG, bq, bp, bg⟩, fun _ => False, ?_, ?_⟩
  · refine ⟨⟨hgq, hgp, hgb, fun h => h, fun h => h, fun h => h, fun h => h⟩, fun k h => h.elim, hs, hT, h.c29, ⟨none, 0, h.c30, ⟨rfl, .inl ⟨rfl, rfl⟩⟩, fun k e => by cases e⟩, h.c31, h.c32, ⟨fun _ => h.c33, fun e => by cases e⟩, ⟨⟨_, h.c34⟩, fun e1 _ => absurd e1 (by show ¬ (12 : Nat) ≤ 7; omega)⟩, h.c35, h.c36, h.c37, h.c38⟩
  · intro v k e1 e2
    rw [h.c26] at e1
    cases e1
    cases e2
set_option maxRecDepth 100000 in
set_option maxHeartbeats 3200000 in
theorem newInflater_any (g : Nat) (w : World) :
    Calls Tryz.prog 17 #[.pointer (some ⟨g, 0, none⟩)] w fun e w' => ∃ q p ao cap, e = .returned (.pointer (some ⟨q, 0, none⟩)) ∧ INew w' q p g ∧ Src w' p (.slice ao 0 cap) 0 0 ∧ OwnsB 5 w.heap.size w' ao cap [] ∧ w.heap.size < p ∧ p < q ∧ q < w'.heap.size ∧ blk ao ≠ some p ∧ blk ao ≠ some q ∧ Below w.heap.size w w' := by
  have NM := hideM (newMachine_any w)
  go_enter Tryz.func17, Tryz.ntmps17
  go_wp2_with fail
  refine Calls.mono NM.out ?_
  rintro e w1 ⟨p, a1, c1, rfl, hs, ho, hp, hp2, hne, hb⟩
  have bq : Below w1.heap.size w1 (w1.alloc (.cells #[.pointer (some ⟨p, 0, none⟩), .nilFunc, .int .i64 0, .int .i64 0, .int .i64 0, .int .i64 0, .int .i64 0, .int .i64 0, .int .i64 0, .int .i64 0, .int .i64 0, .int .i64 0, .int .i64 0, .int .i64 0, .int .i64 0, .int .i64 0, .int .i64 0, .int .i64 0, .int .i64 0, .int .i64 0, .int .i64 0, .int .i64 0, .int .i64 0, .int .i64 0, .int .i64 0, .pointer none, .slice none 0 0, .int .i64 0, .nilFunc, .pointer (some ⟨g, 0, none⟩), .slice none 0 0, .bool false, .int .i64 0, .pointer none, .pointer none, .int .i64 0, .int .i64 0, .int .i64 0, .nilFunc] 63)) := (Below.refl _ _).alloc (Nat.le_refl _) _
  have HC : Hid (∀ i : Nat, (w1.alloc (.cells #[.pointer (some ⟨p, 0, none⟩), .nilFunc, .int .i64 0, .int .i64 0, .int .i64 0, .int .i64 0, .int .i64 0, .int .i64 0, .int .i64 0, .int .i64 0, .int .i64 0, .int .i64 0, .int .i64 0, .int .i64 0, .int .i64 0, .int .i64 0, .int .i64 0, .int .i64 0, .int .i64 0, .int .i64 0, .int .i64 0, .int .i64 0, .int .i64 0, .int .i64 0, .int .i64 0, .pointer none, .slice none 0 0, .int .i64 0, .nilFunc, .pointer (some ⟨g, 0, none⟩), .slice none 0 0, .bool false, .int .i64 0, .pointer none, .pointer none, .int .i64 0, .int .i64 0, .int .i64 0, .nilFunc] 63)).cell? ⟨w1.heap.size, i, none⟩ = (#[.pointer (some ⟨p, 0, none⟩), .nilFunc, .int .i64 0, .int .i64 0, .int .i64 0, .int .i64 0, .int .i64 0, .int .i64 0, .int .i64 0, .int .i64 0, .int .i64 0, .int .i64 0, .int .i64 0, .int .i64 0, .int .i64 0, .int .i64 0, .int .i64 0, .int .i64 0, .int .i64 0, .int .i64 0, .int .i64 0, .int .i64 0, .int .i64 0, .int .i64 0, .int .i64 0, .pointer none, .slice none 0 0, .int .i64 0, .nilFunc, .pointer (some ⟨g, 0, none⟩), .slice none 0 0, .bool false, .int .i64 0, .pointer none, .pointer none, .int .i64 0, .int .i64 0, .int .i64 0, .nilFunc] : Array Value)[i]?) := fun i => by simp [go_sem]
  have HZ : Hid (∀ i : Nat, (w1.alloc (.cells #[.pointer (some ⟨p, 0, none⟩), .nilFunc, .int .i64 0, .int .i64 0, .int .i64 0, .int .i64 0, .int .i64 0, .int .i64 0, .int .i64 0, .int .i64 0, .int .i64 0, .int .i64 0, .int .i64 0, .int .i64 0, .int .i64 0, .int .i64 0, .int .i64 0, .int .i64 0, .int .i64 0, .int .i64 0, .int .i64 0, .int .i64 0, .int .i64 0, .int .i64 0, .int .i64 0, .pointer none, .slice none 0 0, .int .i64 0, .nilFunc, .pointer (some ⟨g, 0, none⟩), .slice none 0 0, .bool false, .int .i64 0, .pointer none, .pointer none, .int .i64 0, .int .i64 0, .int .i64 0, .nilFunc] 63)).frozen? ⟨w1.heap.size, i, none⟩ = false) := fun i => by simp [go_sem]
  have zq : (w1.alloc (.cells #[.pointer (some ⟨p, 0, none⟩), .nilFunc, .int .i64 0, .int .i64 0, .int .i64 0, .int .i64 0, .int .i64 0, .int .i64 0, .int .i64 0, .int .i64 0, .int .i64 0, .int .i64 0, .int .i64 0, .int .i64 0, .int .i64 0, .int .i64 0, .int .i64 0, .int .i64 0, .int .i64 0, .int .i64 0, .int .i64 0, .int .i64 0, .int .i64 0, .int .i64 0, .int .i64 0, .pointer none, .slice none 0 0, .int .i64 0, .nilFunc, .pointer (some ⟨g, 0, none⟩), .slice none 0 0, .bool false, .int .i64 0, .pointer none, .pointer none, .int .i64 0, .int .i64 0, .int .i64 0, .nilFunc] 63)).heap.size = w1.heap.size + 1 := by simp
  have S1 := hideM (hs.grown (grownBy_of_below bq none) (by simp))
  have O1 := hideM (OwnsB.below ho bq)
  have B1 := hideM (hb.trans (bq.mono hb.size))
  have L1 : Hid (∀ k, blk a1 = some k → k < w1.heap.size) := by
    intro k e
    cases a1 with
    | none => cases e
    | some ad =>
      have := (ho.mine.lies ad rfl).2.1
      simp [blk] at e
      omega
  have HNE := hideM hne
  have hww : w.heap.size ≤ w1.heap.size := hb.size
  clear hs ho hb hne bq NM
  go_upto_region 2 with fail
  obtain ⟨q, hq⟩ : ∃ q, w1.heap.size = q := ⟨_, rfl⟩
  rw [hq] at HC HZ zq L1 hp2 hww ⊢
  generalize w1.alloc (.cells #[.pointer (some ⟨p, 0, none⟩), .nilFunc, .int .i64 0, .int .i64 0, .int .i64 0, .int .i64 0, .int .i64 0, .int .i64 0, .int .i64 0, .int .i64 0, .int .i64 0, .int .i64 0, .int .i64 0, .int .i64 0, .int .i64 0, .int .i64 0, .int .i64 0, .int .i64 0, .int .i64 0, .int .i64 0, .int .i64 0, .int .i64 0, .int .i64 0, .int .i64 0, .int .i64 0, .pointer none, .slice none 0 0, .int .i64 0, .nilFunc, .pointer (some ⟨g, 0, none⟩), .slice none 0 0, .bool false, .int .i64 0, .pointer none, .pointer none, .int .i64 0, .int .i64 0, .int .i64 0, .nilFunc] 63) = W1 at *
  clear hq
  have k1 : W1.cell? ⟨q, 1, none⟩ = some .nilFunc := HC.out 1
  have k28 : W1.cell? ⟨q, 28, none⟩ = some .nilFunc := HC.out 28
  have l1 := HZ.out 1
  have hqw : q < W1.heap.size := by omega
  have st1 := store_func W1 ⟨q, 1, none⟩ (Fn.func 31) #[.pointer (some ⟨q, 0, none⟩)] #[] _ k1 l1
  have k28' : (W1.setCell ⟨q, 1, none⟩ (.func (Fn.func 31) #[.pointer (some ⟨q, 0, none⟩)] #[])).cell? ⟨q, 28, none⟩ = some .nilFunc := (World.cell?_setCell_other _ _ _ _ (by simp)).trans k28
  have l28' : (W1.setCell ⟨q, 1, none⟩ (.func (Fn.func 31) #[.pointer (some ⟨q, 0, none⟩)] #[])).frozen? ⟨q, 28, none⟩ = false := by rw [World.frozen?_setCell]; exact HZ.out 28
  have st2 := store_func (W1.setCell ⟨q, 1, none⟩ (.func (Fn.func 31) #[.pointer (some ⟨q, 0, none⟩)] #[])) ⟨q, 28, none⟩ (Fn.func 32) #[.pointer (some ⟨q, 0, none⟩)] #[] _ k28' l28'
  have hqw2 : q < (W1.setCell ⟨q, 1, none⟩ (.func (Fn.func 31) #[.pointer (some ⟨q, 0, none⟩)] #[])).heap.size := by simpa using hqw
  have g1 := grownBy_setCell W1 ⟨q, 1, none⟩ (.func (Fn.func 31) #[.pointer (some ⟨q, 0, none⟩)] #[])
  have g2 := grownBy_setCell (W1.setCell ⟨q, 1, none⟩ (.func (Fn.func 31) #[.pointer (some ⟨q, 0, none⟩)] #[])) ⟨q, 28, none⟩ (.func (Fn.func 32) #[.pointer (some ⟨q, 0, none⟩)] #[])
  have hc : ∀ o v, o ≠ 1 → o ≠ 28 → (#[.pointer (some ⟨p, 0, none⟩), .nilFunc, .int .i64 0, .int .i64 0, .int .i64 0, .int .i64 0, .int .i64 0, .int .i64 0, .int .i64 0, .int .i64 0, .int .i64 0, .int .i64 0, .int .i64 0, .int .i64 0, .int .i64 0, .int .i64 0, .int .i64 0, .int .i64 0, .int .i64 0, .int .i64 0, .int .i64 0, .int .i64 0, .int .i64 0, .int .i64 0, .int .i64 0, .pointer none, .slice none 0 0, .int .i64 0, .nilFunc, .pointer (some ⟨g, 0, none⟩), .slice none 0 0, .bool false, .int .i64 0, .pointer none, .pointer none, .int .i64 0, .int .i64 0, .int .i64 0, .nilFunc] : Array Value)[o]? = some v → ((W1.setCell ⟨q, 1, none⟩ (.func (Fn.func 31) #[.pointer (some ⟨q, 0, none⟩)] #[])).setCell ⟨q, 28, none⟩ (.func (Fn.func 32) #[.pointer (some ⟨q, 0, none⟩)] #[])).cell? ⟨q, o, none⟩ = some v := by
    intro o v h1 h2 h3
    rw [World.cell?_setCell_other _ _ _ _ (by first | (simp; done) | (simp; omega)), World.cell?_setCell_other _ _ _ _ (by first | (simp; done) | (simp; omega)), HC.out o]
    exact h3
  have FIN : Hid (INew ((W1.setCell ⟨q, 1, none⟩ (.func (Fn.func 31) #[.pointer (some ⟨q, 0, none⟩)] #[])).setCell ⟨q, 28, none⟩ (.func (Fn.func 32) #[.pointer (some ⟨q, 0, none⟩)] #[])) q p g) := by
    refine ⟨hc 0 _ (by omega) (by omega) rfl, ?_, fun k hk => ?_, hc 25 _ (by omega) (by omega) rfl, hc 26 _ (by omega) (by omega) rfl, World.cell?_setCell_same _ _ _ k28', hc 29 _ (by omega) (by omega) rfl, hc 30 _ (by omega) (by omega) rfl, hc 31 _ (by omega) (by omega) rfl, hc 32 _ (by omega) (by omega) rfl, hc 33 _ (by omega) (by omega) rfl, hc 34 _ (by omega) (by omega) rfl, hc 35 _ (by omega) (by omega) rfl, hc 36 _ (by omega) (by omega) rfl, hc 37 _ (by omega) (by omega) rfl, hc 38 _ (by omega) (by omega) rfl, fun k => ?_⟩
    · rw [World.cell?_setCell_other _ _ _ _ (by simp)]
      exact World.cell?_setCell_same _ _ _ k1
    · have h3 : k = 2 ∨ k = 3 ∨ k = 4 ∨ k = 5 ∨ k = 6 ∨ k = 7 ∨ k = 8 ∨ k = 9 ∨ k = 10 ∨ k = 11 ∨ k = 12 ∨ k = 13 ∨ k = 14 ∨ k = 15 ∨ k = 16 ∨ k = 17 ∨ k = 18 ∨ k = 19 ∨ k = 20 ∨ k = 21 ∨ k = 22 ∨ k = 23 ∨ k = 24 ∨ k = 27 := by unfold isNum at hk; omega
      rcases h3 with rfl | rfl | rfl | rfl | rfl | rfl | rfl | rfl | rfl | rfl | rfl | rfl | rfl | rfl | rfl | rfl | rfl | rfl | rfl | rfl | rfl | rfl | rfl | rfl <;> exact hc _ _ (by omega) (by omega) rfl
    · rw [World.frozen?_setCell, World.frozen?_setCell]
      exact HZ.out k
  have S3 := hideM ((S1.out.grown g1 (by simp; omega)).grown g2 (by simp; omega))
  have O3 := hideM ((OwnsB.grown O1.out g1 (fun k e e2 => by have := L1.out k e2; simp at e; omega)).grown g2 (fun k e e2 => by have := L1.out k e2; simp at e; omega))
  have B3 := hideM ((B1.out.grown g1 (by omega) (fun k e => by simp at e; omega)).grown g2 (by have := g1.size; omega) (fun k e => by simp at e; omega))
  have z3 : q < ((W1.setCell ⟨q, 1, none⟩ (.func (Fn.func 31) #[.pointer (some ⟨q, 0, none⟩)] #[])).setCell ⟨q, 28, none⟩ (.func (Fn.func 32) #[.pointer (some ⟨q, 0, none⟩)] #[])).heap.size := by have := g1.size; have := g2.size; omega
  have HQ : Hid (blk a1 ≠ some q) := fun e => by have := L1.out q e; omega
  clear hc g1 g2 S1 O1 B1 L1 HC HZ k1 k28 l1 zq
  go_wp2_with fail
  go_ret
  exact ⟨q, p, a1, c1, rfl, FIN.out, S3.out, O3.out, by omega, hp2, z3, HNE.out, HQ.out, B3.out⟩
end Go.Proofs.YtboniidgoepdcaaGreatDoor
