import Derived.Test.YtbddkkfakkedaaaGreatDoorMBR
namespace Go.Proofs.YtbddkkfakkedaaaGreatDoor
open Go.RowKit
attribute [local go_sem ↓] Go.wp_at_zero Go.wp_at_succ
set_option linter.unusedVariables false

/-- An inflater that was just made, without a ring. -/
structure INewN (w : World) (q p : Nat) : Prop where
  c0 : w.cell? ⟨q, 0, none⟩ = some (.pointer (some ⟨p, 0, none⟩))
  c1 : w.cell? ⟨q, 1, none⟩ = some (inow q .nilFunc 7)
  num : ∀ k, isNum k → w.cell? ⟨q, k, none⟩ = some (.int .i64 0)
  c25 : w.cell? ⟨q, 25, none⟩ = some (.pointer none)
  c26 : w.cell? ⟨q, 26, none⟩ = some (.slice none 0 0)
  c28 : w.cell? ⟨q, 28, none⟩ = some (inow q .nilFunc 6)
  c29 : w.cell? ⟨q, 29, none⟩ = some (.pointer none)
  c30 : w.cell? ⟨q, 30, none⟩ = some (.slice none 0 0)
  c31 : w.cell? ⟨q, 31, none⟩ = some (.bool false)
  c32 : w.cell? ⟨q, 32, none⟩ = some (.int .i64 0)
  c33 : w.cell? ⟨q, 33, none⟩ = some (.pointer none)
  c34 : w.cell? ⟨q, 34, none⟩ = some (.pointer none)
  c35 : w.cell? ⟨q, 35, none⟩ = some (.int .i64 0)
  c36 : w.cell? ⟨q, 36, none⟩ = some (.int .i64 0)
  c37 : w.cell? ⟨q, 37, none⟩ = some (.int .i64 0)
  c38 : w.cell? ⟨q, 38, none⟩ = some .nilFunc
  f : ∀ k, w.frozen? ⟨q, k, none⟩ = false
theorem INewN.same {w w' : World} {q p : Nat} (h : INewN w q p) (hb : w'.heap[q]? = w.heap[q]?) : INewN w' q p := by
  have hc : ∀ o, w'.cell? ⟨q, o, none⟩ = w.cell? ⟨q, o, none⟩ := fun o => World.cell?_of_block (w := w) (a := ⟨q, o, none⟩) hb
  exact ⟨(hc 0).trans h.c0, (hc 1).trans h.c1, fun k hk => (hc k).trans (h.num k hk), (hc 25).trans h.c25, (hc 26).trans h.c26, (hc 28).trans h.c28, (hc 29).trans h.c29, (hc 30).trans h.c30, (hc 31).trans h.c31, (hc 32).trans h.c32, (hc 33).trans h.c33, (hc 34).trans h.c34, (hc 35).trans h.c35, (hc 36).trans h.c36, (hc 37).trans h.c37, (hc 38).trans h.c38, fun k => (World.frozen?_of_block (w := w) (a := ⟨q, k, none⟩) hb).trans (h.f k)⟩
set_option maxRecDepth 100000 in
set_option maxHeartbeats 3200000 in
theorem newInflater_nil (w : World) :
    Calls Tryz.prog 50 #[.pointer none] w fun e w' => ∃ q p ao cap, e = .returned (.pointer (some ⟨q, 0, none⟩)) ∧ INewN w' q p ∧ Src w' p (.slice ao 0 cap) 0 0 ∧ OwnsB 5 w.heap.size w' ao cap [] ∧ w.heap.size < p ∧ p < q ∧ q < w'.heap.size ∧ blk ao ≠ some p ∧ blk ao ≠ some q ∧ Below w.heap.size w w' := by
  have NM := hideM (newMachine_any w)
  go_enter Tryz.func50, Tryz.ntmps50
  go_wp2_with fail
  refine Calls.mono NM.out ?_
  rintro e w1 ⟨p, a1, c1, rfl, hs, ho, hp, hp2, hne, hb⟩
  have bq : Below w1.heap.size w1 (w1.alloc (.cells #[.pointer (some ⟨p, 0, none⟩), .nilFunc, .int .i64 0, .int .i64 0, .int .i64 0, .int .i64 0, .int .i64 0, .int .i64 0, .int .i64 0, .int .i64 0, .int .i64 0, .int .i64 0, .int .i64 0, .int .i64 0, .int .i64 0, .int .i64 0, .int .i64 0, .int .i64 0, .int .i64 0, .int .i64 0, .int .i64 0, .int .i64 0, .int .i64 0, .int .i64 0, .int .i64 0, .pointer none, .slice none 0 0, .int .i64 0, .nilFunc, .pointer none, .slice none 0 0, .bool false, .int .i64 0, .pointer none, .pointer none, .int .i64 0, .int .i64 0, .int .i64 0, .nilFunc] 73)) := (Below.refl _ _).alloc (Nat.le_refl _) _
  have HC : Hid (∀ i : Nat, (w1.alloc (.cells #[.pointer (some ⟨p, 0, none⟩), .nilFunc, .int .i64 0, .int .i64 0, .int .i64 0, .int .i64 0, .int .i64 0, .int .i64 0, .int .i64 0, .int .i64 0, .int .i64 0, .int .i64 0, .int .i64 0, .int .i64 0, .int .i64 0, .int .i64 0, .int .i64 0, .int .i64 0, .int .i64 0, .int .i64 0, .int .i64 0, .int .i64 0, .int .i64 0, .int .i64 0, .int .i64 0, .pointer none, .slice none 0 0, .int .i64 0, .nilFunc, .pointer none, .slice none 0 0, .bool false, .int .i64 0, .pointer none, .pointer none, .int .i64 0, .int .i64 0, .int .i64 0, .nilFunc] 73)).cell? ⟨w1.heap.size, i, none⟩ = (#[.pointer (some ⟨p, 0, none⟩), .nilFunc, .int .i64 0, .int .i64 0, .int .i64 0, .int .i64 0, .int .i64 0, .int .i64 0, .int .i64 0, .int .i64 0, .int .i64 0, .int .i64 0, .int .i64 0, .int .i64 0, .int .i64 0, .int .i64 0, .int .i64 0, .int .i64 0, .int .i64 0, .int .i64 0, .int .i64 0, .int .i64 0, .int .i64 0, .int .i64 0, .int .i64 0, .pointer none, .slice none 0 0, .int .i64 0, .nilFunc, .pointer none, .slice none 0 0, .bool false, .int .i64 0, .pointer none, .pointer none, .int .i64 0, .int .i64 0, .int .i64 0, .nilFunc] : Array Value)[i]?) := fun i => by simp [go_sem]
  have HZ : Hid (∀ i : Nat, (w1.alloc (.cells #[.pointer (some ⟨p, 0, none⟩), .nilFunc, .int .i64 0, .int .i64 0, .int .i64 0, .int .i64 0, .int .i64 0, .int .i64 0, .int .i64 0, .int .i64 0, .int .i64 0, .int .i64 0, .int .i64 0, .int .i64 0, .int .i64 0, .int .i64 0, .int .i64 0, .int .i64 0, .int .i64 0, .int .i64 0, .int .i64 0, .int .i64 0, .int .i64 0, .int .i64 0, .int .i64 0, .pointer none, .slice none 0 0, .int .i64 0, .nilFunc, .pointer none, .slice none 0 0, .bool false, .int .i64 0, .pointer none, .pointer none, .int .i64 0, .int .i64 0, .int .i64 0, .nilFunc] 73)).frozen? ⟨w1.heap.size, i, none⟩ = false) := fun i => by simp [go_sem]
  have zq : (w1.alloc (.cells #[.pointer (some ⟨p, 0, none⟩), .nilFunc, .int .i64 0, .int .i64 0, .int .i64 0, .int .i64 0, .int .i64 0, .int .i64 0, .int .i64 0, .int .i64 0, .int .i64 0, .int .i64 0, .int .i64 0, .int .i64 0, .int .i64 0, .int .i64 0, .int .i64 0, .int .i64 0, .int .i64 0, .int .i64 0, .int .i64 0, .int .i64 0, .int .i64 0, .int .i64 0, .int .i64 0, .pointer none, .slice none 0 0, .int .i64 0, .nilFunc, .pointer none, .slice none 0 0, .bool false, .int .i64 0, .pointer none, .pointer none, .int .i64 0, .int .i64 0, .int .i64 0, .nilFunc] 73)).heap.size = w1.heap.size + 1 := by simp
  have S1 := hideM (hs.grown (grownBy_of_below bq none) (by simp))
  have O1 := hideM (OwnsB.below ho bq)
  have B1 := hideM (hb.trans (bq.mono hb.size))
  have L1 : Hid (∀ k, blk a1 = some k → k < w1.heap.size) := by
    intro k e
    cases a1 with
    | none => cases e
    | some ad =>
      have := (ho.mine.lies ad rfl).2.1
      simp [blk] at e
      omega
  have HNE := hideM hne
  have hww : w.heap.size ≤ w1.heap.size := hb.size
  clear hs ho hb hne bq NM
  go_upto_region 2 with fail
  obtain ⟨q, hq⟩ : ∃ q, w1.heap.size = q := ⟨_, rfl⟩
  rw [hq] at HC HZ zq L1 hp2 hww ⊢
  generalize w1.alloc (.cells #[.pointer (some ⟨p, 0, none⟩), .nilFunc, .int .i64 0, .int .i64 0, .int .i64 0, .int .i64 0, .int .i64 0, .int .i64 0, .int .i64 0, .int .i64 0, .int .i64 0, .int .i64 0, .int .i64 0, .int .i64 0, .int .i64 0, .int .i64 0, .int .i64 0, .int .i64 0, .int .i64 0, .int .i64 0, .int .i64 0, .int .i64 0, .int .i64 0, .int .i64 0, .int .i64 0, .pointer none, .slice none 0 0, .int .i64 0, .nilFunc, .pointer none, .slice none 0 0, .bool false, .int .i64 0, .pointer none, .pointer none, .int .i64 0, .int .i64 0, .int .i64 0, .nilFunc] 73) = W1 at *
  clear hq
  have k1 : W1.cell? ⟨q, 1, none⟩ = some .nilFunc := HC.out 1
  have k28 : W1.cell? ⟨q, 28, none⟩ = some .nilFunc := HC.out 28
  have l1 := HZ.out 1
  have hqw : q < W1.heap.size := by omega
  have st1 := store_func W1 ⟨q, 1, none⟩ (Fn.func 83) #[.pointer (some ⟨q, 0, none⟩)] #[] _ k1 l1
  have k28' : (W1.setCell ⟨q, 1, none⟩ (.func (Fn.func 83) #[.pointer (some ⟨q, 0, none⟩)] #[])).cell? ⟨q, 28, none⟩ = some .nilFunc := (World.cell?_setCell_other _ _ _ _ (by simp)).trans k28
  have l28' : (W1.setCell ⟨q, 1, none⟩ (.func (Fn.func 83) #[.pointer (some ⟨q, 0, none⟩)] #[])).frozen? ⟨q, 28, none⟩ = false := by rw [World.frozen?_setCell]; exact HZ.out 28
  have st2 := store_func (W1.setCell ⟨q, 1, none⟩ (.func (Fn.func 83) #[.pointer (some ⟨q, 0, none⟩)] #[])) ⟨q, 28, none⟩ (Fn.func 84) #[.pointer (some ⟨q, 0, none⟩)] #[] _ k28' l28'
  have hqw2 : q < (W1.setCell ⟨q, 1, none⟩ (.func (Fn.func 83) #[.pointer (some ⟨q, 0, none⟩)] #[])).heap.size := by simpa using hqw
  have g1 := grownBy_setCell W1 ⟨q, 1, none⟩ (.func (Fn.func 83) #[.pointer (some ⟨q, 0, none⟩)] #[])
  have g2 := grownBy_setCell (W1.setCell ⟨q, 1, none⟩ (.func (Fn.func 83) #[.pointer (some ⟨q, 0, none⟩)] #[])) ⟨q, 28, none⟩ (.func (Fn.func 84) #[.pointer (some ⟨q, 0, none⟩)] #[])
  have hc : ∀ o v, o ≠ 1 → o ≠ 28 → (#[.pointer (some ⟨p, 0, none⟩), .nilFunc, .int .i64 0, .int .i64 0, .int .i64 0, .int .i64 0, .int .i64 0, .int .i64 0, .int .i64 0, .int .i64 0, .int .i64 0, .int .i64 0, .int .i64 0, .int .i64 0, .int .i64 0, .int .i64 0, .int .i64 0, .int .i64 0, .int .i64 0, .int .i64 0, .int .i64 0, .int .i64 0, .int .i64 0, .int .i64 0, .int .i64 0, .pointer none, .slice none 0 0, .int .i64 0, .nilFunc, .pointer none, .slice none 0 0, .bool false, .int .i64 0, .pointer none, .pointer none, .int .i64 0, .int .i64 0, .int .i64 0, .nilFunc] : Array Value)[o]? = some v → ((W1.setCell ⟨q, 1, none⟩ (.func (Fn.func 83) #[.pointer (some ⟨q, 0, none⟩)] #[])).setCell ⟨q, 28, none⟩ (.func (Fn.func 84) #[.pointer (some ⟨q, 0, none⟩)] #[])).cell? ⟨q, o, none⟩ = some v := by
    intro o v h1 h2 h3
    rw [World.cell?_setCell_other _ _ _ _ (by first | (simp; done) | (simp; omega)), World.cell?_setCell_other _ _ _ _ (by first | (simp; done) | (simp; omega)), HC.out o]
    exact h3
  have FIN : Hid (INewN ((W1.setCell ⟨q, 1, none⟩ (.func (Fn.func 83) #[.pointer (some ⟨q, 0, none⟩)] #[])).setCell ⟨q, 28, none⟩ (.func (Fn.func 84) #[.pointer (some ⟨q, 0, none⟩)] #[])) q p) := by
    refine ⟨hc 0 _ (by omega) (by omega) rfl, ?_, fun k hk => ?_, hc 25 _ (by omega) (by omega) rfl, hc 26 _ (by omega) (by omega) rfl, World.cell?_setCell_same _ _ _ k28', hc 29 _ (by omega) (by omega) rfl, hc 30 _ (by omega) (by omega) rfl, hc 31 _ (by omega) (by omega) rfl, hc 32 _ (by omega) (by omega) rfl, hc 33 _ (by omega) (by omega) rfl, hc 34 _ (by omega) (by omega) rfl, hc 35 _ (by omega) (by omega) rfl, hc 36 _ (by omega) (by omega) rfl, hc 37 _ (by omega) (by omega) rfl, hc 38 _ (by omega) (by omega) rfl, fun k => ?_⟩
    · rw [World.cell?_setCell_other _ _ _ _ (by simp)]
      exact World.cell?_setCell_same _ _ _ k1
    · have h3 : k = 2 ∨ k = 3 ∨ k = 4 ∨ k = 5 ∨ k = 6 ∨ k = 7 ∨ k = 8 ∨ k = 9 ∨ k = 10 ∨ k = 11 ∨ k = 12 ∨ k = 13 ∨ k = 14 ∨ k = 15 ∨ k = 16 ∨ k = 17 ∨ k = 18 ∨ k = 19 ∨ k = 20 ∨ k = 21 ∨ k = 22 ∨ k = 23 ∨ k = 24 ∨ k = 27 := by unfold isNum at hk; omega
      rcases h3 with rfl | rfl | rfl | rfl | rfl | rfl | rfl | rfl | rfl | rfl | rfl | rfl | rfl | rfl | rfl | rfl | rfl | rfl | rfl | rfl | rfl | rfl | rfl | rfl <;> exact hc _ _ (by omega) (by omega) rfl
    · rw [World.frozen?_setCell, World.frozen?_setCell]
      exact HZ.out k
  have S3 := hideM ((S1.out.grown g1 (by simp; omega)).grown g2 (by simp; omega))
  have O3 := hideM ((OwnsB.grown O1.out g1 (fun k e e2 => by have := L1.out k e2; simp at e; omega)).grown g2 (fun k e e2 => by have := L1.out k e2; simp at e; omega))
  have B3 := hideM ((B1.out.grown g1 (by omega) (fun k e => by simp at e; omega)).grown g2 (by have := g1.size; omega) (fun k e => by simp at e; omega))
  have z3 : q < ((W1.setCell ⟨q, 1, none⟩ (.func (Fn.func 83) #[.pointer (some ⟨q, 0, none⟩)] #[])).setCell ⟨q, 28, none⟩ (.func (Fn.func 84) #[.pointer (some ⟨q, 0, none⟩)] #[])).heap.size := by have := g1.size; have := g2.size; omega
  have HQ : Hid (blk a1 ≠ some q) := fun e => by have := L1.out q e; omega
  clear hc g1 g2 S1 O1 B1 L1 HC HZ k1 k28 l1 zq
  go_wp2_with fail
  go_ret
  exact ⟨q, p, a1, c1, rfl, FIN.out, S3.out, O3.out, by omega, hp2, z3, HNE.out, HQ.out, B3.out⟩
end Go.Proofs.YtbddkkfakkedaaaGreatDoor
namespace Go.Proofs.YtbddkkfakkedaaaGreatDoor
open Go.RowKit
attribute [local go_sem ↓] Go.wp_at_zero Go.wp_at_succ
set_option linter.unusedVariables false

/-- An inflater without a ring, whatever it does next and at its end. -/
structure INewZ (w : World) (q p : Nat) (n1 a38 : Value) : Prop where
  c0 : w.cell? ⟨q, 0, none⟩ = some (.pointer (some ⟨p, 0, none⟩))
  c1 : w.cell? ⟨q, 1, none⟩ = some n1
  num : ∀ k, isNum k → w.cell? ⟨q, k, none⟩ = some (.int .i64 0)
  c25 : w.cell? ⟨q, 25, none⟩ = some (.pointer none)
  c26 : w.cell? ⟨q, 26, none⟩ = some (.slice none 0 0)
  c28 : w.cell? ⟨q, 28, none⟩ = some (inow q .nilFunc 6)
  c29 : w.cell? ⟨q, 29, none⟩ = some (.pointer none)
  c30 : w.cell? ⟨q, 30, none⟩ = some (.slice none 0 0)
  c31 : w.cell? ⟨q, 31, none⟩ = some (.bool false)
  c32 : w.cell? ⟨q, 32, none⟩ = some (.int .i64 0)
  c33 : w.cell? ⟨q, 33, none⟩ = some (.pointer none)
  c34 : w.cell? ⟨q, 34, none⟩ = some (.pointer none)
  c35 : w.cell? ⟨q, 35, none⟩ = some (.int .i64 0)
  c36 : w.cell? ⟨q, 36, none⟩ = some (.int .i64 0)
  c37 : w.cell? ⟨q, 37, none⟩ = some (.int .i64 0)
  c38 : w.cell? ⟨q, 38, none⟩ = some a38
  f : ∀ k, w.frozen? ⟨q, k, none⟩ = false
theorem INewN.z {w : World} {q p : Nat} (h : INewN w q p) : INewZ w q p (inow q .nilFunc 7) .nilFunc :=
  ⟨h.c0, h.c1, h.num, h.c25, h.c26, h.c28, h.c29, h.c30, h.c31, h.c32, h.c33, h.c34, h.c35, h.c36, h.c37, h.c38, h.f⟩
theorem INewZ.same {w w' : World} {q p : Nat} {n1 a38 : Value} (h : INewZ w q p n1 a38) (hb : w'.heap[q]? = w.heap[q]?) : INewZ w' q p n1 a38 := by
  have hc : ∀ o, w'.cell? ⟨q, o, none⟩ = w.cell? ⟨q, o, none⟩ := fun o => World.cell?_of_block (w := w) (a := ⟨q, o, none⟩) hb
  exact ⟨(hc 0).trans h.c0, (hc 1).trans h.c1, fun k hk => (hc k).trans (h.num k hk), (hc 25).trans h.c25, (hc 26).trans h.c26, (hc 28).trans h.c28, (hc 29).trans h.c29, (hc 30).trans h.c30, (hc 31).trans h.c31, (hc 32).trans h.c32, (hc 33).trans h.c33, (hc 34).trans h.c34, (hc 35).trans h.c35, (hc 36).trans h.c36, (hc 37).trans h.c37, (hc 38).trans h.c38, fun k => (World.frozen?_of_block (w := w) (a := ⟨q, k, none⟩) hb).trans (h.f k)⟩
theorem isNum_far {k : Nat} (h : isNum k) : k ≠ 1 ∧ k ≠ 38 := by
  unfold isNum at h
  omega
theorem INewZ.set1 {w : World} {q p : Nat} {n1 a38 : Value} (h : INewZ w q p n1 a38) (v : Value) : INewZ (w.setCell ⟨q, 1, none⟩ v) q p v a38 := by
  have hn : ∀ j, j ≠ 1 → (w.setCell ⟨q, 1, none⟩ v).cell? ⟨q, j, none⟩ = w.cell? ⟨q, j, none⟩ := fun j hj => World.cell?_setCell_other _ _ _ _ (by first | (simp; done) | (simp; omega))
  exact ⟨(hn 0 (by decide)).trans h.c0, World.cell?_setCell_same _ _ _ h.c1, fun k hk => (hn k (isNum_far hk).1).trans (h.num k hk), (hn 25 (by decide)).trans h.c25, (hn 26 (by decide)).trans h.c26, (hn 28 (by decide)).trans h.c28, (hn 29 (by decide)).trans h.c29, (hn 30 (by decide)).trans h.c30, (hn 31 (by decide)).trans h.c31, (hn 32 (by decide)).trans h.c32, (hn 33 (by decide)).trans h.c33, (hn 34 (by decide)).trans h.c34, (hn 35 (by decide)).trans h.c35, (hn 36 (by decide)).trans h.c36, (hn 37 (by decide)).trans h.c37, (hn 38 (by decide)).trans h.c38, fun k => by rw [World.frozen?_setCell]; exact h.f k⟩
theorem INewZ.set38 {w : World} {q p : Nat} {n1 a38 : Value} (h : INewZ w q p n1 a38) (v : Value) : INewZ (w.setCell ⟨q, 38, none⟩ v) q p n1 v := by
  have hn : ∀ j, j ≠ 38 → (w.setCell ⟨q, 38, none⟩ v).cell? ⟨q, j, none⟩ = w.cell? ⟨q, j, none⟩ := fun j hj => World.cell?_setCell_other _ _ _ _ (by first | (simp; done) | (simp; omega))
  exact ⟨(hn 0 (by decide)).trans h.c0, (hn 1 (by decide)).trans h.c1, fun k hk => (hn k (isNum_far hk).2).trans (h.num k hk), (hn 25 (by decide)).trans h.c25, (hn 26 (by decide)).trans h.c26, (hn 28 (by decide)).trans h.c28, (hn 29 (by decide)).trans h.c29, (hn 30 (by decide)).trans h.c30, (hn 31 (by decide)).trans h.c31, (hn 32 (by decide)).trans h.c32, (hn 33 (by decide)).trans h.c33, (hn 34 (by decide)).trans h.c34, (hn 35 (by decide)).trans h.c35, (hn 36 (by decide)).trans h.c36, (hn 37 (by decide)).trans h.c37, World.cell?_setCell_same _ _ _ h.c38, fun k => by rw [World.frozen?_setCell]; exact h.f k⟩
/-- A zlib frame's own cells. -/
structure ZCells (w : World) (z q : Nat) (dv : Value) (sz : Int) : Prop where
  z0 : w.cell? ⟨z, 0, none⟩ = some (.pointer (some ⟨q, 0, none⟩))
  z1 : w.cell? ⟨z, 1, none⟩ = some dv
  z2 : w.cell? ⟨z, 2, none⟩ = some (.int .i64 sz)
  zf : ∀ k, w.frozen? ⟨z, k, none⟩ = false
theorem ZCells.same {w w' : World} {z q : Nat} {dv : Value} {sz : Int} (h : ZCells w z q dv sz) (hb : w'.heap[z]? = w.heap[z]?) : ZCells w' z q dv sz := by
  have hc : ∀ o, w'.cell? ⟨z, o, none⟩ = w.cell? ⟨z, o, none⟩ := fun o => World.cell?_of_block (w := w) (a := ⟨z, o, none⟩) hb
  exact ⟨(hc 0).trans h.z0, (hc 1).trans h.z1, (hc 2).trans h.z2, fun k => (World.frozen?_of_block (w := w) (a := ⟨z, k, none⟩) hb).trans (h.zf k)⟩
def zHead (z : Nat) : Value := .func (Fn.func 51) #[.pointer (some ⟨z, 0, none⟩)] #[]
def zSum (z : Nat) : Value := .func (Fn.func 52) #[.pointer (some ⟨z, 0, none⟩)] #[]
set_option maxRecDepth 100000 in
set_option maxHeartbeats 6400000 in
theorem newZlibFrame_any (ao : Option Addr) (nd cd : Nat) (w : World) :
    Calls Tryz.prog 23 #[.slice ao nd cd] w fun e w' => ∃ z q p a1 c1, e = .returned (.pointer (some ⟨z, 0, none⟩)) ∧ ZCells w' z q (.slice ao nd cd) 0 ∧ INewZ w' q p (zHead z) (zSum z) ∧ Src w' p (.slice a1 0 c1) 0 0 ∧ OwnsB 5 w.heap.size w' a1 c1 [] ∧ w.heap.size ≤ p ∧ p < q ∧ q < z ∧ z < w'.heap.size ∧ blk a1 ≠ some p ∧ blk a1 ≠ some q ∧ blk a1 ≠ some z ∧ Below w.heap.size w w' := by
  have NI := hideM (newInflater_nil w)
  go_enter Tryz.func23, Tryz.ntmps23
  go_wp2_with fail
  refine Calls.mono NI.out ?_
  rintro e w1 ⟨q, p, a1, c1, rfl, hN, hS, hO, hp, hpq, hq, hne1, hne2, hb⟩
  have bz : Below w1.heap.size w1 (w1.alloc (.cells #[.pointer (some ⟨q, 0, none⟩), .slice ao nd cd, .int .i64 0] 57)) := (Below.refl _ _).alloc (Nat.le_refl _) _
  have N1 := hideM (hN.z.same (bz.block q hq))
  have S1 := hideM (hS.grown (grownBy_of_below bz none) (by simp))
  have O1 := hideM (OwnsB.below hO bz)
  have B1 := hideM (hb.trans (bz.mono hb.size))
  have ZC : Hid (ZCells (w1.alloc (.cells #[.pointer (some ⟨q, 0, none⟩), .slice ao nd cd, .int .i64 0] 57)) w1.heap.size q (.slice ao nd cd) 0) := by
    refine ⟨?_, ?_, ?_, fun k => ?_⟩ <;> simp [go_sem]
  have zz : (w1.alloc (.cells #[.pointer (some ⟨q, 0, none⟩), .slice ao nd cd, .int .i64 0] 57)).heap.size = w1.heap.size + 1 := by simp
  have HL : Hid (∀ k, blk a1 = some k → k < w1.heap.size) := fun k e => by
    cases a1 with
    | none => cases e
    | some ad =>
      have := (hO.mine.lies ad rfl).2.1
      simp [blk] at e
      omega
  have HNE := hideM (And.intro hne1 hne2)
  have hww : w.heap.size ≤ w1.heap.size := hb.size
  clear hN hS hO hb bz NI hne1 hne2
  go_upto_region 2 with fail
  obtain ⟨z, hz⟩ : ∃ z, w1.heap.size = z := ⟨_, rfl⟩
  rw [hz] at ZC zz HL hq hww ⊢
  generalize w1.alloc (.cells #[.pointer (some ⟨q, 0, none⟩), .slice ao nd cd, .int .i64 0] 57) = W1 at *
  clear hz
  have hqz : q < z := hq
  have st1 := store_func W1 ⟨q, 1, none⟩ (Fn.func 51) #[.pointer (some ⟨z, 0, none⟩)] #[] _ N1.out.c1 (N1.out.f 1)
  have N2 := hideM (N1.out.set1 (zHead z))
  have g1 := grownBy_setCell W1 ⟨q, 1, none⟩ (zHead z)
  have Z2 := hideM (ZC.out.same (g1.block z (by omega) (by simp; omega)))
  have st2 := store_func (W1.setCell ⟨q, 1, none⟩ (zHead z)) ⟨q, 38, none⟩ (Fn.func 52) #[.pointer (some ⟨z, 0, none⟩)] #[] _ N2.out.c38 (N2.out.f 38)
  have N3 := hideM (N2.out.set38 (zSum z))
  have g2 := grownBy_setCell (W1.setCell ⟨q, 1, none⟩ (zHead z)) ⟨q, 38, none⟩ (zSum z)
  have hs1 : W1.heap.size ≤ (W1.setCell ⟨q, 1, none⟩ (zHead z)).heap.size := g1.size
  have Z3 := hideM (Z2.out.same (g2.block z (by omega) (by simp; omega)))
  have S3 := hideM ((S1.out.grown g1 (by simp; omega)).grown g2 (by simp; omega))
  have O3 := hideM ((OwnsB.grown O1.out g1 (fun k e e2 => by simp at e; subst e; exact HNE.out.2 e2)).grown g2 (fun k e e2 => by simp at e; subst e; exact HNE.out.2 e2))
  have B3 := hideM ((B1.out.grown g1 (by omega) (fun k e => by simp at e; omega)).grown g2 (by omega) (fun k e => by simp at e; omega))
  have hs3 : z < ((W1.setCell ⟨q, 1, none⟩ (zHead z)).setCell ⟨q, 38, none⟩ (zSum z)).heap.size := by have := g2.size; omega
  have k0 := ZC.out.z0
  have k0' := Z2.out.z0
  have hzw : z < W1.heap.size := by omega
  have hqw : q < W1.heap.size := by omega
  unfold zHead at N2 Z2 st2 k0' N3 Z3 S3 O3 B3 hs3 hs1
  unfold zSum at N3 Z3 S3 O3 B3 hs3
  clear N1 S1 O1 B1 ZC Z2 N2 g1 g2 zz
  go_wp2_with fail
  go_ret
  exact ⟨z, q, p, a1, c1, rfl, Z3.out, N3.out, S3.out, O3.out, Nat.le_of_lt hp, hpq, hqz, hs3, HNE.out.1, HNE.out.2, fun e => by have := HL.out z e; omega, B3.out⟩
end Go.Proofs.YtbddkkfakkedaaaGreatDoor
namespace Go.Proofs.YtbddkkfakkedaaaGreatDoor
open Go.RowKit
variable {KH : Nat → Option Obj}
attribute [local go_sem ↓] Go.wp_at_zero Go.wp_at_succ
set_option linter.unusedVariables false

/-- An inflater that stands at a block's head, at bit i, with a ring. -/
structure INewR (w : World) (q p g : Nat) (n1 a38 : Value) : Prop where
  c0 : w.cell? ⟨q, 0, none⟩ = some (.pointer (some ⟨p, 0, none⟩))
  c1 : w.cell? ⟨q, 1, none⟩ = some n1
  num : ∀ k, isNum k → w.cell? ⟨q, k, none⟩ = some (.int .i64 0)
  c25 : w.cell? ⟨q, 25, none⟩ = some (.pointer none)
  c26 : w.cell? ⟨q, 26, none⟩ = some (.slice none 0 0)
  c28 : w.cell? ⟨q, 28, none⟩ = some (inow q .nilFunc 6)
  c29 : w.cell? ⟨q, 29, none⟩ = some (.pointer (some ⟨g, 0, none⟩))
  c30 : w.cell? ⟨q, 30, none⟩ = some (.slice none 0 0)
  c31 : w.cell? ⟨q, 31, none⟩ = some (.bool false)
  c32 : w.cell? ⟨q, 32, none⟩ = some (.int .i64 0)
  c33 : w.cell? ⟨q, 33, none⟩ = some (.pointer none)
  c34 : w.cell? ⟨q, 34, none⟩ = some (.pointer none)
  c35 : w.cell? ⟨q, 35, none⟩ = some (.int .i64 0)
  c36 : w.cell? ⟨q, 36, none⟩ = some (.int .i64 0)
  c37 : w.cell? ⟨q, 37, none⟩ = some (.int .i64 0)
  c38 : w.cell? ⟨q, 38, none⟩ = some a38
  f : ∀ k, w.frozen? ⟨q, k, none⟩ = false
/-- Where inflating begins at bit i. -/
def icA (i : Nat) (t : List Int) : IC := ⟨7, lc0 i, t, [], false, 0, false, [], [], 0, 0, 0⟩
theorem INewR.mem {w : World} {q p hB g s B i : Nat} {n1 a38 : Value} {zs t : List Int} (h : INewR w q p g n1 a38) (hne : q ≠ p) (hbq : hB ≠ q) (hgq : g ≠ q) (hgp : g ≠ p) (hgb : g ≠ hB) (hG : 3 ≤ B) (bq : B ≤ q) (bp : B ≤ p) (bg : B ≤ g) (bb : 3 ≤ hB) (hbw : hB < w.heap.size) (hs : 0 < s ∧ s ≤ 32768) (hr : Rd w p hB zs i) (hT : RingT w g s t) (hGl : Glob w) (hK : ∀ k o, KH k = some o → w.heap[k]? = some o ∧ k ≠ q ∧ k ≠ p ∧ k ≠ g ∧ k ≠ hB) : IMem KH q p hB g s B zs a38 w (icA i t) := by
  refine ⟨⟨hne, hbq, ⟨by omega, by omega, bb⟩, hr, h.c0, ⟨_, h.c1⟩, h.num, ⟨_, h.c25⟩, h.c28, h.f, ⟨w.heap.size, _, World.block_lt_of_cell? w _ h.c0, hr.lt, hbw, Nat.le_refl _, h.c26, ⟨rfl, .inl ⟨rfl, rfl⟩⟩, fun h1 => absurd h1 (by show ¬ (1 : Nat) ≤ 0; omega), fun h1 => absurd h1 (by show ¬ (4 : Nat) ≤ 0; omega)⟩, hGl.g0, hGl.g1⟩, ⟨fun h1 => absurd h1 (by show ¬ (7 : Nat) ≤ 6; omega), fun _ => rfl⟩, ⟨hG, bq, bp, bg⟩, fun k => KH k ≠ none, ?_, ?_⟩
  · have hx : ∀ k, KH k ≠ none → k < w.heap.size ∧ k ≠ q ∧ k ≠ p ∧ k ≠ g ∧ k ≠ hB := fun k h1 => by
      cases h2 : KH k with
      | none => exact absurd h2 h1
      | some o => exact ⟨(Array.getElem?_eq_some_iff.1 (hK k o h2).1).1, (hK k o h2).2⟩
    refine ⟨⟨hgq, hgp, hgb, fun h => (hx _ h).2.2.2.1 rfl, fun h => (hx _ h).2.1 rfl, fun h => (hx _ h).2.2.1 rfl, fun h => (hx _ h).2.2.2.2 rfl⟩, fun k h => (hx k h).1, hs, hT, h.c29, ⟨none, 0, h.c30, ⟨rfl, .inl ⟨rfl, rfl⟩⟩, fun k e => by cases e⟩, h.c31, h.c32, ⟨fun _ => h.c33, fun e => by cases e⟩, ⟨⟨_, h.c34⟩, fun e1 _ => absurd e1 (by show ¬ (12 : Nat) ≤ 7; omega)⟩, h.c35, h.c36, h.c37, h.c38, fun k o e => ⟨by rw [e]; simp, (hK k o e).1⟩⟩
  · intro v k e1 e2
    rw [h.c26] at e1
    cases e1
    cases e2
theorem isNum_29 {k : Nat} (h : isNum k) : k ≠ 29 := by
  unfold isNum at h
  omega
theorem INewZ.ring {w : World} {q p : Nat} {n1 a38 : Value} (h : INewZ w q p n1 a38) (g : Nat) : INewR (w.setCell ⟨q, 29, none⟩ (.pointer (some ⟨g, 0, none⟩))) q p g n1 a38 := by
  have hn : ∀ j, j ≠ 29 → (w.setCell ⟨q, 29, none⟩ (.pointer (some ⟨g, 0, none⟩))).cell? ⟨q, j, none⟩ = w.cell? ⟨q, j, none⟩ := fun j hj => World.cell?_setCell_other _ _ _ _ (by first | (simp; done) | (simp; omega))
  exact ⟨(hn 0 (by decide)).trans h.c0, (hn 1 (by decide)).trans h.c1, fun k hk => (hn k (isNum_29 hk)).trans (h.num k hk), (hn 25 (by decide)).trans h.c25, (hn 26 (by decide)).trans h.c26, (hn 28 (by decide)).trans h.c28, World.cell?_setCell_same _ _ _ h.c29, (hn 30 (by decide)).trans h.c30, (hn 31 (by decide)).trans h.c31, (hn 32 (by decide)).trans h.c32, (hn 33 (by decide)).trans h.c33, (hn 34 (by decide)).trans h.c34, (hn 35 (by decide)).trans h.c35, (hn 36 (by decide)).trans h.c36, (hn 37 (by decide)).trans h.c37, (hn 38 (by decide)).trans h.c38, fun k => by rw [World.frozen?_setCell]; exact h.f k⟩
/-- A ring is made, and the block's head is what comes next. -/
def BeginPost (q p s : Nat) (n1 a38 : Value) (t : List Int) (e : Ending) (w w' : World) : Prop := ∃ g, e = .returned (inow q a38 7) ∧ INewR w' q p g n1 a38 ∧ RingT w' g s t ∧ w.heap.size ≤ g ∧ g < w'.heap.size ∧ w.grownBy w' (some q)
set_option maxRecDepth 100000 in
set_option maxHeartbeats 6400000 in
theorem begin_any (q p s : Nat) (n1 a38 : Value) (d : List Int) (bo : Option Addr) (cb : Nat) (w : World) (h : INewZ w q p n1 a38) (hs0 : 0 < s) (hs1 : s ≤ 32768) (hr : Row w bo d) (hdf : d.length ≤ cb) (hdc : cb ≤ maxLen) (hdb : ∀ ad, bo = some ad → ad.block < w.heap.size) :
    Calls Tryz.prog 87 #[.pointer (some ⟨q, 0, none⟩), .int .i64 (s : Nat), .slice bo d.length cb] w fun e w' => BeginPost q p s n1 a38 (lastN s d) e w w' := by
  have NR := hideM (newRing_any s d bo cb w hs0 hs1 hr hdf hdc hdb)
  have hqw : q < w.heap.size := World.block_lt_of_cell? w _ h.c0
  have HN := hideM h
  clear hr hdf hdc hdb h
  go_enter Tryz.func87, Tryz.ntmps87
  go_wp2_with fail
  refine Calls.mono NR.out ?_
  rintro e w1 ⟨g, rfl, hg0, hg1, hring, hbr⟩
  have b1 := hbr.mono hg0
  have N1 := hideM (HN.out.same (b1.block q hqw))
  have T1 : Hid (RingT w1 g s (lastN s d)) := hring
  have G1 := hideM (grownBy_of_below b1 (some q))
  have hz : w.heap.size ≤ w1.heap.size := b1.size
  have k29 := N1.out.c29
  have l29 := N1.out.f 29
  have hq1 : q < w1.heap.size := by omega
  have R2 := hideM (N1.out.ring g)
  have g2 := grownBy_setCell w1 ⟨q, 29, none⟩ (.pointer (some ⟨g, 0, none⟩))
  have T2 := hideM (T1.out.keep (g2.block g hg1 (by simp; omega)))
  have G2 := hideM (grownBy_trans G1.out g2)
  have hz2 : g < (w1.setCell ⟨q, 29, none⟩ (.pointer (some ⟨g, 0, none⟩))).heap.size := Nat.lt_of_lt_of_le hg1 g2.size
  clear hring hbr b1 NR HN N1 T1 G1 g2
  go_wp2_with fail
  go_ret
  exact ⟨g, rfl, R2.out, T2.out, hg0, hz2, G2.out⟩
end Go.Proofs.YtbddkkfakkedaaaGreatDoor
