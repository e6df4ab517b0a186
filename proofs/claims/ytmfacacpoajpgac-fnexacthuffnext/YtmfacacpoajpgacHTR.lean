import Derived.Test.YtmfacacpoajpgacHTQ
namespace Go.Proofs.Ytmfacacpoajpgac
open Go.RowKit
attribute [local go_sem ↓] Go.wp_at_zero Go.wp_at_succ
set_option linter.unusedVariables false

theorem Upd.beneath {w w' : World} {p m B : Nat} {S : Nat → Nat × Nat} {L : Nat → Nat → Nat × Nat} (hT : Tab w p S m L) (hU : Upd w w' p) (hB : B ≤ p) : Below B w w' := by
  have hp := hT.short.lt
  refine ⟨hU.os, hU.tape, hU.output, hU.size, fun k hk => hU.block k (by omega) (by omega) (fun g m' c h => ?_)⟩
  obtain ⟨lo, c2, xs, h2, h3, _⟩ := hT.long
  rw [h2] at h
  have h5 := Option.some.inj h
  rw [h5] at h3
  have := (h3.lt g rfl).1
  omega
theorem cell_off {w : World} {k : Nat} {A : Array Value} {e : TypeId} {fz : Nat × Nat} {B g N c n : Nat} {e' : TypeId} {xs : List Value} (h : w.heap[k]? = some (.cells A e fz)) (ho : w.ownsRow B e' n (.slice (some ⟨g, 0, none⟩) N c) N xs) (hne : e ≠ e') : k ≠ g := by
  rintro rfl
  rcases ho.2 with ⟨h', _⟩ | ⟨g', cap', cur, h', _, hg, _⟩
  · simp at h'
  · simp only [Value.slice.injEq, Option.some.injEq, Addr.mk.injEq, and_true, true_and] at h'
    obtain ⟨rfl, rfl⟩ := h'
    rw [h] at hg
    simp only [Option.some.injEq, Obj.cells.injEq] at hg
    exact hne hg.2.1

theorem alloc2_heap (w : World) (A B : Array Value) (e e' : TypeId) : ((w.alloc (.cells A e)).alloc (.cells B e')).heap[w.heap.size]? = some (.cells A e (0, 0)) ∧ ((w.alloc (.cells A e)).alloc (.cells B e')).heap[w.heap.size + 1]? = some (.cells B e' (0, 0)) := by
  constructor
  · simp only [World.alloc, Array.getElem?_push, Array.size_push]
    simp
  · simp only [World.alloc, Array.getElem?_push, Array.size_push]
    simp

set_option maxRecDepth 100000 in
set_option maxHeartbeats 6400000 in
theorem put_long (p m s X Y P F Y2 q m' : Nat) (S S' : Nat → Nat × Nat) (L L' : Nat → Nat → Nat × Nat) (w : World) (hT : Tab w p S m L) (hs : s ≤ 320) (hX0 : 9 < X) (hX : X ≤ 15) (hP : 2 ^ (X - 9) = P) (hY : Y < 32768) (hF : Y % 512 = F) (hY2 : Y / 512 = Y2) (hY3 : Y2 < P) (hq : q < m') (hm : m' ≤ 513)
    (hlink : ∀ W, Tab W p S m L → Calls Try.prog 69 #[.pointer (some ⟨p, 0, none⟩), .int .u64 F] W fun e w' => e = .returned (.int .i16 q) ∧ Tab w' p S' m' L' ∧ Upd W w' p) :
    Calls Try.prog 60 #[.pointer (some ⟨p, 0, none⟩), .int .i16 s, .agg #[.int .i64 X, .int .u64 Y]] w fun e w' => e = .returned (.tuple #[]) ∧ Tab w' p S' m' (fun j => if j = q then fun i => if i % P = Y2 then (X, s) else L' q i else L' j) ∧ ∀ B, B ≤ p → Below B w w' := by
  obtain ⟨w2, hw2⟩ : ∃ w2, (w.alloc (.cells #[.int .i64 X, .int .u64 Y] 62)).alloc (.cells #[.int .i8 X, .int .i16 s] 93) = w2 := ⟨_, rfl⟩
  have hb2 : Below w.heap.size w w2 := by
    rw [← hw2]
    exact ((Below.refl _ _).alloc (Nat.le_refl _) _).alloc (by simp) _
  have hpw := hT.short.lt
  have hX8 : IntKind.i8.wrap (X : Int) = (X : Int) := by simp [IntKind.wrap, IntKind.bits, IntKind.signed]; omega
  have p0 : w2.cell? ⟨w.heap.size, 0, none⟩ = some (.int .i64 X) := by rw [← hw2]; simp [go_sem]
  have p1 : w2.cell? ⟨w.heap.size, 1, none⟩ = some (.int .u64 Y) := by rw [← hw2]; simp [go_sem]
  have p2 : w2.cell? ⟨w.heap.size + 1, 0, none⟩ = some (.int .i8 X) := by rw [← hw2]; simp [go_sem]
  have p3 : w2.cell? ⟨w.heap.size + 1, 1, none⟩ = some (.int .i16 s) := by rw [← hw2]; simp [go_sem]
  have HT := hideH hT
  have HLK := hideH (hlink w2 (hT.below hb2))
  have HB2 := hideH hb2
  have b9 : decide ((X : Int) ≤ 9) = false := decide_eq_false (by omega)
  have hFi : (Y : Int) % 512 = (F : Int) := by omega
  have hFt : (Y : Int).tmod 512 = (F : Int) := by rw [Int.tmod_eq_emod_of_nonneg (by omega)]; exact hFi
  have HW2 := hideH hw2
  have HP := hideH hP
  have hl0 := World.block_lt_of_cell? w2 _ p0
  have hl1 := World.block_lt_of_cell? w2 _ p2
  clear hT hb2 hP hlink
  go_enter Try.func60, Try.ntmps60
  go_wp2_with (go_at_call 69; refine Calls.mono HLK.out ?_)
  intro e w3 he hT3 hU3
  subst he
  have hk0 := Upd.keeps HT.out HB2.out hU3 w.heap.size (Nat.le_refl _) hl0
  have hk1 := Upd.keeps HT.out HB2.out hU3 (w.heap.size + 1) (by omega) hl1
  have q0 := (World.cell?_of_block (a := ⟨w.heap.size, 0, none⟩) hk0).trans p0
  have q1 := (World.cell?_of_block (a := ⟨w.heap.size, 1, none⟩) hk0).trans p1
  have q2 := (World.cell?_of_block (a := ⟨w.heap.size + 1, 0, none⟩) hk1).trans p2
  have q3 := (World.cell?_of_block (a := ⟨w.heap.size + 1, 1, none⟩) hk1).trans p3
  obtain ⟨lo3, c3, xs3, hc3, ho3, hen3⟩ := hT3.long
  obtain ⟨g, rfl, hpg, hEq⟩ := hen3 q hq
  have hg0 : w.heap.size ≠ g := cell_off (hk0.trans (by rw [← HW2.out]; exact (alloc2_heap w _ _ _ _).1)) ho3 (by decide)
  have hg1 : w.heap.size + 1 ≠ g := cell_off (hk1.trans (by rw [← HW2.out]; exact (alloc2_heap w _ _ _ _).2)) ho3 (by decide)
  have hl3 := Nat.lt_of_lt_of_le hl0 hU3.size
  have hl4 := Nat.lt_of_lt_of_le hl1 hU3.size
  have HSP := hideH (fun W (hW : Below w3.heap.size w3 W) => spread_any g (q * 128) 64 Y2 (X - 9) X s P (L' q) W (hEq.below hW) (by omega) (by omega) HP.out hY3)
  have HT3 := hideH hT3
  have HU3 := hideH hU3
  have hgw := hEq.lt
  have hY2i : (Y : Int) / 512 = (Y2 : Int) := by omega
  have hX9 : ((X - 9 : Nat) : Int) = (X : Int) - 9 := by omega
  have hX9w : IntKind.i64.wrap ((X - 9 : Nat) : Int) = ((X - 9 : Nat) : Int) := by rw [IntKind.wrap_i64]; omega
  obtain ⟨X9, hXX⟩ : ∃ x, X - 9 = x := ⟨_, rfl⟩
  rw [hXX] at HSP hX9 hX9w
  have hY2w : IntKind.u64.wrap (Y2 : Int) = (Y2 : Int) := by rw [IntKind.wrap_u64]; omega
  have hqm : (q : Int) < (m' : Int) := by omega
  have hq0 : (0 : Int) ≤ (q : Int) := by omega
  have hX9' : (X : Int) - 9 = (X9 : Int) := hX9.symm
  clear hT3 hU3 hEq hen3 ho3 p0 p1 p2 p3 hX9 hXX hk0 hk1
  have hp3 := HT3.out.short.lt
  go_upto_region 5 with fail
  clear hw2
  go_region_held3 (fun w' => w'.cell? ⟨w.heap.size, 0, none⟩ = some (.int .i64 X) ∧ w'.cell? ⟨w.heap.size, 1, none⟩ = some (.int .u64 Y) ∧ w'.cell? ⟨w.heap.size + 1, 0, none⟩ = some (.int .i8 X) ∧ w'.cell? ⟨w.heap.size + 1, 1, none⟩ = some (.int .i16 s) ∧ w'.cell? ⟨p, 1024, none⟩ = some (.slice (some ⟨g, 0, none⟩) m' c3))
    (first | (refine ⟨?_, ?_, ?_, ?_, ?_⟩ <;> with_reducible assumption) | (go_keep; done))
    ((go_at_call 68; refine Calls.mono (HSP.out _ ((Below.refl _ _).drew)) ?_; rintro e w7 ⟨rfl, hE7, hO7⟩; have r0 := (World.cell?_of_block (w := w3.drew) (a := ⟨w.heap.size, 0, none⟩) (hO7.grown.block (w.heap.size) hl3 (by simp; omega))).trans q0; have r1 := (World.cell?_of_block (w := w3.drew) (a := ⟨w.heap.size, 1, none⟩) (hO7.grown.block (w.heap.size) hl3 (by simp; omega))).trans q1; have r2 := (World.cell?_of_block (w := w3.drew) (a := ⟨w.heap.size + 1, 0, none⟩) (hO7.grown.block (w.heap.size + 1) hl4 (by simp; omega))).trans q2; have r3 := (World.cell?_of_block (w := w3.drew) (a := ⟨w.heap.size + 1, 1, none⟩) (hO7.grown.block (w.heap.size + 1) hl4 (by simp; omega))).trans q3; have r4 := (World.cell?_of_block (w := w3.drew) (a := ⟨p, 1024, none⟩) (hO7.grown.block p hp3 (by simp; omega))).trans hc3))
  have hO8 : Only w3 w7 g (q * 128) (64 * 2) := (Only.below hgw ((Below.refl _ _).drew)).trans hO7
  have HF := hideH (Tab.long_set HT3.out hq hc3 hE7 hO8)
  have HBB : Hid (∀ B, B ≤ p → Below B w w7) := fun B hB => by
    have x1 := HB2.out.mono (show B ≤ w.heap.size by omega)
    have x2 : Below B w2 w3 := Upd.beneath (HT.out.below HB2.out) HU3.out hB
    have x3 := x1.trans x2
    exact x3.grown hO8.grown (by have := x3.size; omega) (fun k e => by simp at e; omega)
  clear hO8 hO7 hE7
  go_wp2_with fail
  go_end0
  exact ⟨rfl, HF.out, HBB.out⟩

end Go.Proofs.Ytmfacacpoajpgac
