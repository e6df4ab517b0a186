import Derived.Deep.RegionLawGrows
import Derived.Test.YtbddkkfakkedaaaGreatDoorMAB
import Derived.Test.YtbddkkfakkedaaaGreatDoorMAE
import Derived.Test.YtbddkkfakkedaaaGreatDoorMBC
import Derived.Test.YtbddkkfakkedaaaGreatDoorMBJ
import Derived.Test.YtbddkkfakkedaaaGreatDoorMBQ
namespace Go.Proofs.YtbddkkfakkedaaaGreatDoor
open Go.RowKit
attribute [local go_sem ↓] Go.wp_at_zero Go.wp_at_succ
set_option linter.unusedVariables false

/-- An inflater that was just made. -/
structure INew (w : World) (q p g : Nat) : Prop where
  c0 : w.cell? ⟨q, 0, none⟩ = some (.pointer (some ⟨p, 0, none⟩))
  c1 : w.cell? ⟨q, 1, none⟩ = some (inow q .nilFunc 7)
  num : ∀ k, isNum k → w.cell? ⟨q, k, none⟩ = some (.int .i64 0)
  c25 : w.cell? ⟨q, 25, none⟩ = some (.pointer none)
  c26 : w.cell? ⟨q, 26, none⟩ = some (.slice none 0 0)
  c28 : w.cell? ⟨q, 28, none⟩ = some (inow q .nilFunc 6)
  c29 : w.cell? ⟨q, 29, none⟩ = some (.pointer (some ⟨g, 0, none⟩))
  c30 : w.cell? ⟨q, 30, none⟩ = some (.slice none 0 0)
  c31 : w.cell? ⟨q, 31, none⟩ = some (.bool false)
  c32 : w.cell? ⟨q, 32, none⟩ = some (.int .i64 0)
  c33 : w.cell? ⟨q, 33, none⟩ = some (.pointer none)
  c34 : w.cell? ⟨q, 34, none⟩ = some (.pointer none)
  c35 : w.cell? ⟨q, 35, none⟩ = some (.int .i64 0)
  c36 : w.cell? ⟨q, 36, none⟩ = some (.int .i64 0)
  c37 : w.cell? ⟨q, 37, none⟩ = some (.int .i64 0)
  c38 : w.cell? ⟨q, 38, none⟩ = some .nilFunc
  f : ∀ k, w.frozen? ⟨q, k, none⟩ = false
theorem INew.same {w w' : World} {q p g : Nat} (h : INew w q p g) (hb : w'.heap[q]? = w.heap[q]?) : INew w' q p g := by
  have hc : ∀ o, w'.cell? ⟨q, o, none⟩ = w.cell? ⟨q, o, none⟩ := fun o => World.cell?_of_block (w := w) (a := ⟨q, o, none⟩) hb
  exact ⟨(hc 0).trans h.c0, (hc 1).trans h.c1, fun k hk => (hc k).trans (h.num k hk), (hc 25).trans h.c25, (hc 26).trans h.c26, (hc 28).trans h.c28, (hc 29).trans h.c29, (hc 30).trans h.c30, (hc 31).trans h.c31, (hc 32).trans h.c32, (hc 33).trans h.c33, (hc 34).trans h.c34, (hc 35).trans h.c35, (hc 36).trans h.c36, (hc 37).trans h.c37, (hc 38).trans h.c38, fun k => (World.frozen?_of_block (w := w) (a := ⟨q, k, none⟩) hb).trans (h.f k)⟩
/-- Where inflating begins. -/
def ic0 (t : List Int) : IC := ⟨7, lc0 0, t, [], false, 0, false, [], [], 0, 0, 0⟩
theorem INew.mem {w : World} {q p hB g s B : Nat} {zs t : List Int} (h : INew w q p g) (hne : q ≠ p) (hbq : hB ≠ q) (hgq : g ≠ q) (hgp : g ≠ p) (hgb : g ≠ hB) (hG : 3 ≤ B) (bq : B ≤ q) (bp : B ≤ p) (bg : B ≤ g) (bb : 3 ≤ hB) (hbw : hB < w.heap.size) (hs : 0 < s ∧ s ≤ 32768) (hr : Rd w p hB zs 0) (hT : RingT w g s t) (hGl : Glob w) : IMem (fun _ => none) q p hB g s B zs .nilFunc w (ic0 t) := by
  refine ⟨⟨hne, hbq, ⟨by omega, by omega, bb⟩, hr, h.c0, ⟨_, h.c1⟩, h.num, ⟨_, h.c25⟩, h.c28, h.f, ⟨w.heap.size, _, World.block_lt_of_cell? w _ h.c0, hr.lt, hbw, Nat.le_refl _, h.c26, ⟨rfl, .inl ⟨rfl, rfl⟩⟩, fun h1 => absurd h1 (by show ¬ (1 : Nat) ≤ 0; omega), fun h1 => absurd h1 (by show ¬ (4 : Nat) ≤ 0; omega)⟩, hGl.g0, hGl.g1⟩, ⟨fun h1 => absurd h1 (by show ¬ (7 : Nat) ≤ 6; omega), fun _ => rfl⟩, ⟨hG, bq, bp, bg⟩, fun _ => False, ?_, ?_⟩
  · refine ⟨⟨hgq, hgp, hgb, fun h => h, fun h => h, fun h => h, fun h => h⟩, fun k h => h.elim, hs, hT, h.c29, ⟨none, 0, h.c30, ⟨rfl, .inl ⟨rfl, rfl⟩⟩, fun k e => by cases e⟩, h.c31, h.c32, ⟨fun _ => h.c33, fun e => by cases e⟩, ⟨⟨_, h.c34⟩, fun e1 _ => absurd e1 (by show ¬ (12 : Nat) ≤ 7; omega)⟩, h.c35, h.c36, h.c37, h.c38, fun k o e => by cases e⟩
  · intro v k e1 e2
    rw [h.c26] at e1
    cases e1
    cases e2
set_option maxRecDepth 100000 in
set_option maxHeartbeats 3200000 in
theorem newInflater_any (g : Nat) (w : World) :
    Calls Tryz.prog 50 #[.pointer (some ⟨g, 0, none⟩)] w fun e w' => ∃ q p ao cap, e = .returned (.pointer (some ⟨q, 0, none⟩)) ∧ INew w' q p g ∧ Src w' p (.slice ao 0 cap) 0 0 ∧ OwnsB 5 w.heap.size w' ao cap [] ∧ w.heap.size < p ∧ p < q ∧ q < w'.heap.size ∧ blk ao ≠ some p ∧ blk ao ≠ some q ∧ Below w.heap.size w w' := by
  have NM := hideM (newMachine_any w)
  go_enter Tryz.func50, Tryz.ntmps50
  go_wp2_with fail
  refine Calls.mono NM.out ?_
  rintro e w1 ⟨p, a1, c1, rfl, hs, ho, hp, hp2, hne, hb⟩
  have bq : Below w1.heap.size w1 (w1.alloc (.cells #[.pointer (some ⟨p, 0, none⟩), .nilFunc, .int .i64 0, .int .i64 0, .int .i64 0, .int .i64 0, .int .i64 0, .int .i64 0, .int .i64 0, .int .i64 0, .int .i64 0, .int .i64 0, .int .i64 0, .int .i64 0, .int .i64 0, .int .i64 0, .int .i64 0, .int .i64 0, .int .i64 0, .int .i64 0, .int .i64 0, .int .i64 0, .int .i64 0, .int .i64 0, .int .i64 0, .pointer none, .slice none 0 0, .int .i64 0, .nilFunc, .pointer (some ⟨g, 0, none⟩), .slice none 0 0, .bool false, .int .i64 0, .pointer none, .pointer none, .int .i64 0, .int .i64 0, .int .i64 0, .nilFunc] 73)) := (Below.refl _ _).alloc (Nat.le_refl _) _
  have HC : Hid (∀ i : Nat, (w1.alloc (.cells #[.pointer (some ⟨p, 0, none⟩), .nilFunc, .int .i64 0, .int .i64 0, .int .i64 0, .int .i64 0, .int .i64 0, .int .i64 0, .int .i64 0, .int .i64 0, .int .i64 0, .int .i64 0, .int .i64 0, .int .i64 0, .int .i64 0, .int .i64 0, .int .i64 0, .int .i64 0, .int .i64 0, .int .i64 0, .int .i64 0, .int .i64 0, .int .i64 0, .int .i64 0, .int .i64 0, .pointer none, .slice none 0 0, .int .i64 0, .nilFunc, .pointer (some ⟨g, 0, none⟩), .slice none 0 0, .bool false, .int .i64 0, .pointer none, .pointer none, .int .i64 0, .int .i64 0, .int .i64 0, .nilFunc] 73)).cell? ⟨w1.heap.size, i, none⟩ = (#[.pointer (some ⟨p, 0, none⟩), .nilFunc, .int .i64 0, .int .i64 0, .int .i64 0, .int .i64 0, .int .i64 0, .int .i64 0, .int .i64 0, .int .i64 0, .int .i64 0, .int .i64 0, .int .i64 0, .int .i64 0, .int .i64 0, .int .i64 0, .int .i64 0, .int .i64 0, .int .i64 0, .int .i64 0, .int .i64 0, .int .i64 0, .int .i64 0, .int .i64 0, .int .i64 0, .pointer none, .slice none 0 0, .int .i64 0, .nilFunc, .pointer (some ⟨g, 0, none⟩), .slice none 0 0, .bool false, .int .i64 0, .pointer none, .pointer none, .int .i64 0, .int .i64 0, .int .i64 0, .nilFunc] : Array Value)[i]?) := fun i => by simp [go_sem]
  have HZ : Hid (∀ i : Nat, (w1.alloc (.cells #[.pointer (some ⟨p, 0, none⟩), .nilFunc, .int .i64 0, .int .i64 0, .int .i64 0, .int .i64 0, .int .i64 0, .int .i64 0, .int .i64 0, .int .i64 0, .int .i64 0, .int .i64 0, .int .i64 0, .int .i64 0, .int .i64 0, .int .i64 0, .int .i64 0, .int .i64 0, .int .i64 0, .int .i64 0, .int .i64 0, .int .i64 0, .int .i64 0, .int .i64 0, .int .i64 0, .pointer none, .slice none 0 0, .int .i64 0, .nilFunc, .pointer (some ⟨g, 0, none⟩), .slice none 0 0, .bool false, .int .i64 0, .pointer none, .pointer none, .int .i64 0, .int .i64 0, .int .i64 0, .nilFunc] 73)).frozen? ⟨w1.heap.size, i, none⟩ = false) := fun i => by simp [go_sem]
  have zq : (w1.alloc (.cells #[.pointer (some ⟨p, 0, none⟩), .nilFunc, .int .i64 0, .int .i64 0, .int .i64 0, .int .i64 0, .int .i64 0, .int .i64 0, .int .i64 0, .int .i64 0, .int .i64 0, .int .i64 0, .int .i64 0, .int .i64 0, .int .i64 0, .int .i64 0, .int .i64 0, .int .i64 0, .int .i64 0, .int .i64 0, .int .i64 0, .int .i64 0, .int .i64 0, .int .i64 0, .int .i64 0, .pointer none, .slice none 0 0, .int .i64 0, .nilFunc, .pointer (some ⟨g, 0, none⟩), .slice none 0 0, .bool false, .int .i64 0, .pointer none, .pointer none, .int .i64 0, .int .i64 0, .int .i64 0, .nilFunc] 73)).heap.size = w1.heap.size + 1 := by simp
  have S1 := hideM (hs.grown (grownBy_of_below bq none) (by simp))
  have O1 := hideM (OwnsB.below ho bq)
  have B1 := hideM (hb.trans (bq.mono hb.size))
  have L1 : Hid (∀ k, blk a1 = some k → k < w1.heap.size) := by
    intro k e
    cases a1 with
    | none => cases e
    | some ad =>
      have := (ho.mine.lies ad rfl).2.1
      simp [blk] at e
      omega
  have HNE := hideM hne
  have hww : w.heap.size ≤ w1.heap.size := hb.size
  clear hs ho hb hne bq NM
  go_upto_region 2 with fail
  obtain ⟨q, hq⟩ : ∃ q, w1.heap.size = q := ⟨_, rfl⟩
  rw [hq] at HC HZ zq L1 hp2 hww ⊢
  generalize w1.alloc (.cells #[.pointer (some ⟨p, 0, none⟩), .nilFunc, .int .i64 0, .int .i64 0, .int .i64 0, .int .i64 0, .int .i64 0, .int .i64 0, .int .i64 0, .int .i64 0, .int .i64 0, .int .i64 0, .int .i64 0, .int .i64 0, .int .i64 0, .int .i64 0, .int .i64 0, .int .i64 0, .int .i64 0, .int .i64 0, .int .i64 0, .int .i64 0, .int .i64 0, .int .i64 0, .int .i64 0, .pointer none, .slice none 0 0, .int .i64 0, .nilFunc, .pointer (some ⟨g, 0, none⟩), .slice none 0 0, .bool false, .int .i64 0, .pointer none, .pointer none, .int .i64 0, .int .i64 0, .int .i64 0, .nilFunc] 73) = W1 at *
  clear hq
  have k1 : W1.cell? ⟨q, 1, none⟩ = some .nilFunc := HC.out 1
  have k28 : W1.cell? ⟨q, 28, none⟩ = some .nilFunc := HC.out 28
  have l1 := HZ.out 1
  have hqw : q < W1.heap.size := by omega
  have st1 := store_func W1 ⟨q, 1, none⟩ (Fn.func 83) #[.pointer (some ⟨q, 0, none⟩)] #[] _ k1 l1
  have k28' : (W1.setCell ⟨q, 1, none⟩ (.func (Fn.func 83) #[.pointer (some ⟨q, 0, none⟩)] #[])).cell? ⟨q, 28, none⟩ = some .nilFunc := (World.cell?_setCell_other _ _ _ _ (by simp)).trans k28
  have l28' : (W1.setCell ⟨q, 1, none⟩ (.func (Fn.func 83) #[.pointer (some ⟨q, 0, none⟩)] #[])).frozen? ⟨q, 28, none⟩ = false := by rw [World.frozen?_setCell]; exact HZ.out 28
  have st2 := store_func (W1.setCell ⟨q, 1, none⟩ (.func (Fn.func 83) #[.pointer (some ⟨q, 0, none⟩)] #[])) ⟨q, 28, none⟩ (Fn.func 84) #[.pointer (some ⟨q, 0, none⟩)] #[] _ k28' l28'
  have hqw2 : q < (W1.setCell ⟨q, 1, none⟩ (.func (Fn.func 83) #[.pointer (some ⟨q, 0, none⟩)] #[])).heap.size := by simpa using hqw
  have g1 := grownBy_setCell W1 ⟨q, 1, none⟩ (.func (Fn.func 83) #[.pointer (some ⟨q, 0, none⟩)] #[])
  have g2 := grownBy_setCell (W1.setCell ⟨q, 1, none⟩ (.func (Fn.func 83) #[.pointer (some ⟨q, 0, none⟩)] #[])) ⟨q, 28, none⟩ (.func (Fn.func 84) #[.pointer (some ⟨q, 0, none⟩)] #[])
  have hc : ∀ o v, o ≠ 1 → o ≠ 28 → (#[.pointer (some ⟨p, 0, none⟩), .nilFunc, .int .i64 0, .int .i64 0, .int .i64 0, .int .i64 0, .int .i64 0, .int .i64 0, .int .i64 0, .int .i64 0, .int .i64 0, .int .i64 0, .int .i64 0, .int .i64 0, .int .i64 0, .int .i64 0, .int .i64 0, .int .i64 0, .int .i64 0, .int .i64 0, .int .i64 0, .int .i64 0, .int .i64 0, .int .i64 0, .int .i64 0, .pointer none, .slice none 0 0, .int .i64 0, .nilFunc, .pointer (some ⟨g, 0, none⟩), .slice none 0 0, .bool false, .int .i64 0, .pointer none, .pointer none, .int .i64 0, .int .i64 0, .int .i64 0, .nilFunc] : Array Value)[o]? = some v → ((W1.setCell ⟨q, 1, none⟩ (.func (Fn.func 83) #[.pointer (some ⟨q, 0, none⟩)] #[])).setCell ⟨q, 28, none⟩ (.func (Fn.func 84) #[.pointer (some ⟨q, 0, none⟩)] #[])).cell? ⟨q, o, none⟩ = some v := by
    intro o v h1 h2 h3
    rw [World.cell?_setCell_other _ _ _ _ (by first | (simp; done) | (simp; omega)), World.cell?_setCell_other _ _ _ _ (by first | (simp; done) | (simp; omega)), HC.out o]
    exact h3
  have FIN : Hid (INew ((W1.setCell ⟨q, 1, none⟩ (.func (Fn.func 83) #[.pointer (some ⟨q, 0, none⟩)] #[])).setCell ⟨q, 28, none⟩ (.func (Fn.func 84) #[.pointer (some ⟨q, 0, none⟩)] #[])) q p g) := by
    refine ⟨hc 0 _ (by omega) (by omega) rfl, ?_, fun k hk => ?_, hc 25 _ (by omega) (by omega) rfl, hc 26 _ (by omega) (by omega) rfl, World.cell?_setCell_same _ _ _ k28', hc 29 _ (by omega) (by omega) rfl, hc 30 _ (by omega) (by omega) rfl, hc 31 _ (by omega) (by omega) rfl, hc 32 _ (by omega) (by omega) rfl, hc 33 _ (by omega) (by omega) rfl, hc 34 _ (by omega) (by omega) rfl, hc 35 _ (by omega) (by omega) rfl, hc 36 _ (by omega) (by omega) rfl, hc 37 _ (by omega) (by omega) rfl, hc 38 _ (by omega) (by omega) rfl, fun k => ?_⟩
    · rw [World.cell?_setCell_other _ _ _ _ (by simp)]
      exact World.cell?_setCell_same _ _ _ k1
    · have h3 : k = 2 ∨ k = 3 ∨ k = 4 ∨ k = 5 ∨ k = 6 ∨ k = 7 ∨ k = 8 ∨ k = 9 ∨ k = 10 ∨ k = 11 ∨ k = 12 ∨ k = 13 ∨ k = 14 ∨ k = 15 ∨ k = 16 ∨ k = 17 ∨ k = 18 ∨ k = 19 ∨ k = 20 ∨ k = 21 ∨ k = 22 ∨ k = 23 ∨ k = 24 ∨ k = 27 := by unfold isNum at hk; omega
      rcases h3 with rfl | rfl | rfl | rfl | rfl | rfl | rfl | rfl | rfl | rfl | rfl | rfl | rfl | rfl | rfl | rfl | rfl | rfl | rfl | rfl | rfl | rfl | rfl | rfl <;> exact hc _ _ (by omega) (by omega) rfl
    · rw [World.frozen?_setCell, World.frozen?_setCell]
      exact HZ.out k
  have S3 := hideM ((S1.out.grown g1 (by simp; omega)).grown g2 (by simp; omega))
  have O3 := hideM ((OwnsB.grown O1.out g1 (fun k e e2 => by have := L1.out k e2; simp at e; omega)).grown g2 (fun k e e2 => by have := L1.out k e2; simp at e; omega))
  have B3 := hideM ((B1.out.grown g1 (by omega) (fun k e => by simp at e; omega)).grown g2 (by have := g1.size; omega) (fun k e => by simp at e; omega))
  have z3 : q < ((W1.setCell ⟨q, 1, none⟩ (.func (Fn.func 83) #[.pointer (some ⟨q, 0, none⟩)] #[])).setCell ⟨q, 28, none⟩ (.func (Fn.func 84) #[.pointer (some ⟨q, 0, none⟩)] #[])).heap.size := by have := g1.size; have := g2.size; omega
  have HQ : Hid (blk a1 ≠ some q) := fun e => by have := L1.out q e; omega
  clear hc g1 g2 S1 O1 B1 L1 HC HZ k1 k28 l1 zq
  go_wp2_with fail
  go_ret
  exact ⟨q, p, a1, c1, rfl, FIN.out, S3.out, O3.out, by omega, hp2, z3, HNE.out, HQ.out, B3.out⟩
end Go.Proofs.YtbddkkfakkedaaaGreatDoor
namespace Go.Proofs.YtbddkkfakkedaaaGreatDoor
open Go.RowKit
attribute [local go_sem ↓] Go.wp_at_zero Go.wp_at_succ
set_option linter.unusedVariables false

/-- How the inflater ends. -/
def IEndsN (s : Nat) (zs : List Int) : Nat → IC → Int → IC → Prop
  | 0, _, _, _ => False
  | n + 1, c, k, cf => (¬ c.st ≤ 15 ∧ k = 1 ∧ cf = c) ∨ (c.st ≤ 15 ∧ istep0 s zs c = .inr (k, cf)) ∨ (c.st ≤ 15 ∧ ∃ c', istep0 s zs c = .inl c' ∧ IEndsN s zs n c' k cf)
def IEnds (s : Nat) (zs : List Int) (c : IC) (k : Int) (cf : IC) : Prop := ∃ n, IEndsN s zs n c k cf
theorem IEnds.fin {s : Nat} {zs : List Int} {c : IC} (h : ¬ c.st ≤ 15) : IEnds s zs c 1 c := ⟨1, .inl ⟨h, rfl, rfl⟩⟩
theorem IEnds.bad {s : Nat} {zs : List Int} {c cf : IC} {k : Int} (h : c.st ≤ 15) (hs : istep0 s zs c = .inr (k, cf)) : IEnds s zs c k cf := ⟨1, .inr (.inl ⟨h, hs⟩)⟩
theorem IEnds.more {s : Nat} {zs : List Int} {c c' cf : IC} {k : Int} (h : c.st ≤ 15) (hs : istep0 s zs c = .inl c') (h2 : IEnds s zs c' k cf) : IEnds s zs c k cf := by
  obtain ⟨n, hn⟩ := h2
  exact ⟨n + 1, .inr (.inr ⟨h, c', hs, hn⟩)⟩
theorem IEnds.cut {s : Nat} {zs : List Int} {c cf : IC} {k : Int} (h : IEnds s zs c k cf) : (¬ c.st ≤ 15 ∧ k = 1 ∧ cf = c) ∨ (c.st ≤ 15 ∧ istep0 s zs c = .inr (k, cf)) ∨ (c.st ≤ 15 ∧ ∃ c', istep0 s zs c = .inl c' ∧ IEnds s zs c' k cf) := by
  obtain ⟨n, hn⟩ := h
  cases n with
  | zero => exact hn.elim
  | succ n =>
    rcases hn with h | h | ⟨h1, c', h2, h3⟩
    · exact .inl h
    · exact .inr (.inl h)
    · exact .inr (.inr ⟨h1, c', h2, n, h3⟩)
theorem IEnds.step {s : Nat} {zs : List Int} {c c' cf : IC} {k : Int} (h : IEnds s zs c k cf) (h15 : c.st ≤ 15) (hs : istep0 s zs c = .inl c') : IEnds s zs c' k cf := by
  rcases h.cut with ⟨h1, _⟩ | ⟨_, h2⟩ | ⟨_, c2, h2, h3⟩
  · exact absurd h15 h1
  · rw [hs] at h2; cases h2
  · rw [hs] at h2; injection h2 with e; subst e; exact h3
theorem IEnds.stop {s : Nat} {zs : List Int} {c c2 cf : IC} {k k2 : Int} (h : IEnds s zs c k cf) (h15 : c.st ≤ 15) (hs : istep0 s zs c = .inr (k2, c2)) : k = k2 ∧ cf = c2 := by
  rcases h.cut with ⟨h1, _⟩ | ⟨_, h2⟩ | ⟨_, c3, h2, h3⟩
  · exact absurd h15 h1
  · rw [hs] at h2; injection h2 with e; injection e with e1 e2; exact ⟨e1.symm, e2.symm⟩
  · rw [hs] at h2; cases h2
theorem IEnds.at16 {s : Nat} {zs : List Int} {c cf : IC} {k : Int} (h : IEnds s zs c k cf) (h16 : c.st = 16) : k = 1 ∧ cf = c := by
  rcases h.cut with ⟨_, h2⟩ | ⟨h2, _⟩ | ⟨h2, _⟩
  · exact h2
  · omega
  · omega
theorem istep0_no1 {s : Nat} {zs : List Int} {c cf : IC} {k : Int} (hs : istep0 s zs c = .inr (k, cf)) : k = 2 ∨ k = 3 ∨ k = 6 := by
  unfold istep0 at hs
  by_cases h5 : c.st ≤ 5
  · rw [if_pos h5] at hs
    cases hl : lstep0 zs c.lc with
    | inl l => rw [hl] at hs; cases hs
    | inr x =>
      rw [hl] at hs
      obtain ⟨k2, l⟩ := x
      injection hs with e
      injection e with e1 e2
      dsimp only at e1
      subst e1
      rcases lstep0_no hl with h | h
      · exact .inl h
      · exact .inr (.inl h)
  rw [if_neg h5] at hs
  repeat' (split at hs)
  all_goals (try unfold dynamicCodesS at hs)
  all_goals (try unfold blockHeadS at hs)
  all_goals (try unfold blockEndS at hs)
  all_goals (try unfold storedHeadS at hs)
  all_goals (try unfold storedBytesS at hs)
  all_goals (try unfold fixedCodesS at hs)
  all_goals (try unfold literalS at hs)
  all_goals (try unfold copyLengthS at hs)
  all_goals (try unfold distanceS at hs)
  all_goals (try unfold copyDistanceS at hs)
  all_goals repeat' (split at hs)
  all_goals first | (cases hs; done) | (injection hs with e; injection e with e1 e2; omega)
theorem istep0_out {s : Nat} {zs : List Int} {c cf : IC} {k : Int} (hs : istep0 s zs c = .inr (k, cf)) : cf.out = c.out := by
  unfold istep0 at hs
  by_cases h5 : c.st ≤ 5
  · rw [if_pos h5] at hs
    cases hl : lstep0 zs c.lc with
    | inl l => rw [hl] at hs; cases hs
    | inr x =>
      rw [hl] at hs
      obtain ⟨k2, l⟩ := x
      injection hs with e
      injection e with e1 e2
      rw [← e2]
  rw [if_neg h5] at hs
  repeat' (split at hs)
  all_goals (try unfold dynamicCodesS at hs)
  all_goals (try unfold blockHeadS at hs)
  all_goals (try unfold blockEndS at hs)
  all_goals (try unfold storedHeadS at hs)
  all_goals (try unfold storedBytesS at hs)
  all_goals (try unfold fixedCodesS at hs)
  all_goals (try unfold literalS at hs)
  all_goals (try unfold copyLengthS at hs)
  all_goals (try unfold distanceS at hs)
  all_goals (try unfold copyDistanceS at hs)
  all_goals repeat' (split at hs)
  all_goals first | (cases hs; done) | (injection hs with e; injection e with e1 e2; rw [← e2])
theorem IEnds.of_ends {q s : Nat} {zs : List Int} {hzl : zs.length ≤ 65536} {c cf : IW zs} {k : Int} (h : Ends (inowO q) (istep s zs hzl) c k cf) : ∃ c2, IEnds s zs c.1 k c2 ∧ cf.1.out = c2.out ∧ (k = 1 → cf.1 = c2) := by
  refine Ends.ind (X := fun c k cf => ∃ c2, IEnds s zs c.1 k c2 ∧ cf.1.out = c2.out ∧ (k = 1 → cf.1 = c2)) ?_ ?_ ?_ h
  · intro c h1
    refine ⟨c.1, .fin ?_, rfl, fun _ => rfl⟩
    intro h5
    unfold inowO at h1
    rw [if_pos h5] at h1
    cases h1
  · intro c cf k h1 hs
    have h5 : c.1.st ≤ 15 := by
      rcases Nat.lt_or_ge 15 c.1.st with h | h
      · exfalso; apply h1; unfold inowO; rw [if_neg (by omega)]
      · exact h
    obtain ⟨c2, e1, e2, e3⟩ := istep_inr h5 hs
    refine ⟨c2, .bad h5 e1, ?_, fun e => ?_⟩
    · by_cases hk : k = 2
      · subst hk
        rw [e2 rfl, istep0_two (c.2 h5) e1]
      · rw [e3 hk]
        rfl
    · have := istep0_no1 e1
      omega
  · intro c c' cf k h1 hs ih
    have h5 : c.1.st ≤ 15 := by
      rcases Nat.lt_or_ge 15 c.1.st with h | h
      · exfalso; apply h1; unfold inowO; rw [if_neg (by omega)]
      · exact h
    obtain ⟨c2, e1, e2⟩ := ih
    exact ⟨c2, .more h5 (istep_inl h5 hs) e1, e2⟩
/-- The numbers stay well to the end. -/
theorem IEnds.well {s : Nat} {zs : List Int} {c cf : IC} {k : Int} (hzl : zs.length ≤ 65536) (h : IEnds s zs c k cf) (hW : IWell zs c) : cf.out.length ≤ 100000 ∧ (k = 1 → cf.lc.i ≤ 8 * zs.length) := by
  obtain ⟨n, hn⟩ := h
  induction n generalizing c with
  | zero => exact hn.elim
  | succ n ih =>
    rcases hn with ⟨h1, rfl, rfl⟩ | ⟨h1, hs⟩ | ⟨h1, c', hs, h3⟩
    · exact ⟨hW.out, fun _ => hW.le⟩
    · refine ⟨?_, fun e => by have := istep0_no1 hs; omega⟩
      rw [istep0_out hs]
      exact hW.out
    · exact ih (istep0_ok hW h1 hzl hs).1 h3
end Go.Proofs.YtbddkkfakkedaaaGreatDoor
namespace Go.Proofs.YtbddkkfakkedaaaGreatDoor
open Go.RowKit
attribute [local go_sem ↓] Go.wp_at_zero Go.wp_at_succ
set_option linter.unusedVariables false

/-- Three cells. -/
structure Rs3v (w : World) (g : Nat) (v0 v1 v2 : Value) : Prop where
  c0 : w.cell? ⟨g, 0, none⟩ = some v0
  c1 : w.cell? ⟨g, 1, none⟩ = some v1
  c2 : w.cell? ⟨g, 2, none⟩ = some v2
  f : ∀ k, w.frozen? ⟨g, k, none⟩ = false
theorem rs3v_new (w : World) (v0 v1 v2 : Value) (t : TypeId) : Rs3v (w.alloc (.cells #[v0, v1, v2] t)) w.heap.size v0 v1 v2 := by
  refine ⟨?_, ?_, ?_, fun k => ?_⟩ <;> simp [go_sem]
theorem Rs3v.below {w w' : World} {B g : Nat} {v0 v1 v2 : Value} (h : Rs3v w g v0 v1 v2) (hb : Below B w w') (hg : g < B) : Rs3v w' g v0 v1 v2 :=
  ⟨(hb.cell (p := ⟨g, 0, none⟩) hg).trans h.c0, (hb.cell (p := ⟨g, 1, none⟩) hg).trans h.c1, (hb.cell (p := ⟨g, 2, none⟩) hg).trans h.c2, fun k => (hb.frozen (p := ⟨g, k, none⟩) hg).trans (h.f k)⟩
theorem Rs3v.set {w : World} {g : Nat} {v0 v1 v2 : Value} (h : Rs3v w g v0 v1 v2) (x0 x1 x2 : Value) :
    Rs3v (((w.setCell ⟨g, 0, none⟩ x0).setCell ⟨g, 1, none⟩ x1).setCell ⟨g, 2, none⟩ x2) g x0 x1 x2 ∧ w.grownBy (((w.setCell ⟨g, 0, none⟩ x0).setCell ⟨g, 1, none⟩ x1).setCell ⟨g, 2, none⟩ x2) (some g) := by
  have hn : ∀ (W : World) (x : Value) (i j : Nat), i ≠ j → (W.setCell ⟨g, i, none⟩ x).cell? ⟨g, j, none⟩ = W.cell? ⟨g, j, none⟩ := fun W x i j hij => World.cell?_setCell_other _ _ _ _ (by first | (simp; done) | (simp; omega))
  refine ⟨⟨?_, ?_, ?_, fun k => ?_⟩, ?_⟩
  · rw [hn _ _ 2 0 (by decide), hn _ _ 1 0 (by decide), World.cell?_setCell_same _ _ _ h.c0]
  · rw [hn _ _ 2 1 (by decide), World.cell?_setCell_same _ _ _ (u := v1) (by rw [hn _ _ 0 1 (by decide)]; exact h.c1)]
  · rw [World.cell?_setCell_same _ _ _ (u := v2) (by rw [hn _ _ 1 2 (by decide), hn _ _ 0 2 (by decide)]; exact h.c2)]
  · simp only [World.frozen?_setCell]
    exact h.f k
  · exact grownBy_trans (grownBy_trans (grownBy_setCell w ⟨g, 0, none⟩ _) (grownBy_setCell _ ⟨g, 1, none⟩ _)) (grownBy_setCell _ ⟨g, 2, none⟩ _)
/-- What Inflate answers: number, what was told, bits. -/
def InfIs (k : Int) (out : List Int) (n : Int) (e : Ending) (w w' : World) : Prop :=
  ∃ a c, e = .returned (.agg #[.int .i64 k, .slice a out.length c, .int .i64 n]) ∧ OwnsB 5 w.heap.size w' a c out ∧ Below w.heap.size w w'
theorem OwnsB.nil (e B : Nat) (w : World) : OwnsB e B w none 0 [] := ⟨rfl, .inl ⟨rfl, rfl⟩⟩
end Go.Proofs.YtbddkkfakkedaaaGreatDoor
