import Derived.Test.YtmfacacpoajpgacHTM
namespace Go.Proofs.Ytmfacacpoajpgac
open Go.RowKit
attribute [local go_sem ↓] Go.wp_at_zero Go.wp_at_succ
set_option linter.unusedVariables false

theorem Upd.only {w w' : World} {p : Nat} (h : Only w w' p 0 1024) : Upd w w' p :=
  ⟨h.grown.os, h.grown.tape, h.grown.output, h.grown.size, fun k hk hp _ => h.grown.block k hk (by simpa using hp)⟩
/-- spread into short. -/
theorem Tab.short_set {w w' : World} {p m : Nat} {S S' : Nat → Nat × Nat} {L : Nat → Nat → Nat × Nat} (h : Tab w p S m L) (hE : Ents w' p 0 512 S') (hO : Only w w' p 0 1024) : Tab w' p S' m L := by
  obtain ⟨h1, lo, c, xs, h2, h3, h4⟩ := h
  refine ⟨hE, lo, c, xs, (hO.rest 1024 (by omega)).trans h2, ?_, fun j hj => ?_⟩
  · refine h3.kept hO.grown ?_
    cases lo with
    | none => exact .inl rfl
    | some a => exact .inr (by have := (h3.lt a.block rfl).1; simp [Value.ownBlock]; omega)
  · obtain ⟨g, e, h5, h6⟩ := h4 j hj
    exact ⟨g, e, h5, h6.grown hO.grown (by simp; omega)⟩

set_option maxRecDepth 100000 in
set_option maxHeartbeats 6400000 in
theorem put_short (p m s X Y P : Nat) (S : Nat → Nat × Nat) (L : Nat → Nat → Nat × Nat) (w : World) (hT : Tab w p S m L) (hs : s ≤ 320) (hX0 : 0 < X) (hX : X ≤ 9) (hP : 2 ^ X = P) (hY : Y < P) :
    Calls Try.prog 60 #[.pointer (some ⟨p, 0, none⟩), .int .i16 s, .agg #[.int .i64 X, .int .u64 Y]] w fun e w' => e = .returned (.tuple #[]) ∧ Tab w' p (fun i => if i % P = Y then (X, s) else S i) m L ∧ Upd w w' p := by
  obtain ⟨w2, hw2⟩ : ∃ w2, (w.alloc (.cells #[.int .i64 X, .int .u64 Y] 62)).alloc (.cells #[.int .i8 X, .int .i16 s] 93) = w2 := ⟨_, rfl⟩
  have hb2 : Below w.heap.size w w2 := by
    rw [← hw2]
    exact ((Below.refl _ _).alloc (Nat.le_refl _) _).alloc (by simp) _
  have hpw := hT.short.lt
  have hX8 : IntKind.i8.wrap (X : Int) = (X : Int) := by simp [IntKind.wrap, IntKind.bits, IntKind.signed]; omega
  have p0 : w2.cell? ⟨w.heap.size, 0, none⟩ = some (.int .i64 X) := by rw [← hw2]; simp [go_sem]
  have p1 : w2.cell? ⟨w.heap.size, 1, none⟩ = some (.int .u64 Y) := by rw [← hw2]; simp [go_sem]
  have p2 : w2.cell? ⟨w.heap.size + 1, 0, none⟩ = some (.int .i8 X) := by rw [← hw2]; simp [go_sem]
  have p3 : w2.cell? ⟨w.heap.size + 1, 1, none⟩ = some (.int .i16 s) := by rw [← hw2]; simp [go_sem]
  have HT := hideH hT
  have HT2 := hideH (hT.below hb2)
  have HB2 := hideH hb2
  have HSP := hideH (fun W (hW : Below w2.heap.size w2 W) => spread_any p 0 512 Y X X s P S W ((HT2.out.below hW).short) (by omega) hX hP hY)
  have b9 : decide ((X : Int) ≤ 9) = true := decide_eq_true (by omega)
  clear hT hb2 hP
  go_enter Try.func60, Try.ntmps60
  go_upto_region 3 with fail
  have hl0 := World.block_lt_of_cell? w2 _ p0
  have hl1 := World.block_lt_of_cell? w2 _ p2
  have HW2 := hideH hw2
  clear hw2
  go_region_held3 (fun w' => w'.cell? ⟨w.heap.size, 0, none⟩ = some (.int .i64 X) ∧ w'.cell? ⟨w.heap.size, 1, none⟩ = some (.int .u64 Y) ∧ w'.cell? ⟨w.heap.size + 1, 0, none⟩ = some (.int .i8 X) ∧ w'.cell? ⟨w.heap.size + 1, 1, none⟩ = some (.int .i16 s))
    (first | (refine ⟨?_, ?_, ?_, ?_⟩ <;> with_reducible assumption) | (go_keep; done))
    ((go_at_call 68; refine Calls.mono (HSP.out _ ((Below.refl _ _).drew)) ?_; rintro e w7 ⟨rfl, hE7, hO7⟩; have q0 := (World.cell?_of_block (w := w2.drew) (a := ⟨w.heap.size, 0, none⟩) (hO7.grown.block w.heap.size hl0 (by simp; omega))).trans p0; have q1 := (World.cell?_of_block (w := w2.drew) (a := ⟨w.heap.size, 1, none⟩) (hO7.grown.block w.heap.size hl0 (by simp; omega))).trans p1; have q2 := (World.cell?_of_block (w := w2.drew) (a := ⟨w.heap.size + 1, 0, none⟩) (hO7.grown.block (w.heap.size + 1) hl1 (by simp; omega))).trans p2; have q3 := (World.cell?_of_block (w := w2.drew) (a := ⟨w.heap.size + 1, 1, none⟩) (hO7.grown.block (w.heap.size + 1) hl1 (by simp; omega))).trans p3))
  have hbd : Below w.heap.size w w2.drew := HB2.out.trans (((Below.refl _ _).drew).mono HB2.out.size)
  have hOw : Only w w7 p 0 1024 := (Only.below hpw hbd).trans hO7
  have HF := hideH (Tab.short_set HT.out hE7 hOw)
  have HU := hideH (Upd.only hOw)
  clear hbd hOw hE7 hO7
  go_wp2_with fail
  exact bodyPost_ret (v := .tuple #[]) (results_none rfl _ _ _) rfl ⟨rfl, HF.out, HU.out⟩

end Go.Proofs.Ytmfacacpoajpgac
