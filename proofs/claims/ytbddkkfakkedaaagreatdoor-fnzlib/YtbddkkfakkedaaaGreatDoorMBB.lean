import Derived.Test.YtbddkkfakkedaaaGreatDoorMAQ
import Derived.Test.YtbddkkfakkedaaaGreatDoorMAZ
import Derived.Test.YtbddkkfakkedaaaGreatDoorMBA
namespace Go.Proofs.YtbddkkfakkedaaaGreatDoor
open Go.RowKit
attribute [local go_sem ↓] Go.wp_at_zero Go.wp_at_succ
set_option linter.unusedVariables false

theorem Upd.only {w w' : World} {p : Nat} (h : Only w w' p 0 1024) : Upd w w' p :=
  ⟨h.grown.os, h.grown.tape, h.grown.output, h.grown.size, fun k hk hp _ => h.grown.block k hk (by simpa using hp)⟩
/-- spread into short. -/
theorem Tab.short_set {w w' : World} {p m : Nat} {S S' : Nat → Nat × Nat} {L : Nat → Nat → Nat × Nat} (h : Tab w p S m L) (hE : Ents w' p 0 512 S') (hO : Only w w' p 0 1024) : Tab w' p S' m L := by
  obtain ⟨h1, lo, c, xs, h2, h3, h4⟩ := h
  refine ⟨hE, lo, c, xs, (hO.rest 1024 (by omega)).trans h2, ?_, fun j hj => ?_⟩
  · refine h3.kept hO.grown ?_
    cases lo with
    | none => exact .inl rfl
    | some a => exact .inr (by have := (h3.lt a.block rfl).1; simp [Value.ownBlock]; omega)
  · obtain ⟨g, e, h5, h6⟩ := h4 j hj
    exact ⟨g, e, h5, h6.grown hO.grown (by simp; omega)⟩

set_option maxRecDepth 100000 in
set_option maxHeartbeats 6400000 in
theorem put_short (p m s X Y P : Nat) (S : Nat → Nat × Nat) (L : Nat → Nat → Nat × Nat) (w : World) (hT : Tab w p S m L) (hs : s ≤ 320) (hX0 : 0 < X) (hX : X ≤ 9) (hP : 2 ^ X = P) (hY : Y < P) :
    Calls Tryz.prog 169 #[.pointer (some ⟨p, 0, none⟩), .int .i16 s, .agg #[.int .i64 X, .int .u64 Y]] w fun e w' => e = .returned (.tuple #[]) ∧ Tab w' p (fun i => if i % P = Y then (X, s) else S i) m L ∧ Upd w w' p := by
  obtain ⟨w2, hw2⟩ : ∃ w2, (w.alloc (.cells #[.int .i64 X, .int .u64 Y] 107)).alloc (.cells #[.int .i8 X, .int .i16 s] 243) = w2 := ⟨_, rfl⟩
  have hb2 : Below w.heap.size w w2 := by
    rw [← hw2]
    exact ((Below.refl _ _).alloc (Nat.le_refl _) _).alloc (by simp) _
  have hpw := hT.short.lt
  have hX8 : IntKind.i8.wrap (X : Int) = (X : Int) := by simp [IntKind.wrap, IntKind.bits, IntKind.signed]; omega
  have p0 : w2.cell? ⟨w.heap.size, 0, none⟩ = some (.int .i64 X) := by rw [← hw2]; simp [go_sem]
  have p1 : w2.cell? ⟨w.heap.size, 1, none⟩ = some (.int .u64 Y) := by rw [← hw2]; simp [go_sem]
  have p2 : w2.cell? ⟨w.heap.size + 1, 0, none⟩ = some (.int .i8 X) := by rw [← hw2]; simp [go_sem]
  have p3 : w2.cell? ⟨w.heap.size + 1, 1, none⟩ = some (.int .i16 s) := by rw [← hw2]; simp [go_sem]
  have HT := hideH hT
  have HT2 := hideH (hT.below hb2)
  have HB2 := hideH hb2
  have HSP := hideH (fun W (hW : Below w2.heap.size w2 W) => spread_any p 0 512 Y X X s P S W ((HT2.out.below hW).short) (by omega) hX hP hY)
  have b9 : decide ((X : Int) ≤ 9) = true := decide_eq_true (by omega)
  clear hT hb2 hP
  go_enter Tryz.func169, Tryz.ntmps169
  go_upto_region 3 with fail
  have hl0 := World.block_lt_of_cell? w2 _ p0
  have hl1 := World.block_lt_of_cell? w2 _ p2
  have HW2 := hideH hw2
  clear hw2
  go_region_held3 (fun w' => w'.cell? ⟨w.heap.size, 0, none⟩ = some (.int .i64 X) ∧ w'.cell? ⟨w.heap.size, 1, none⟩ = some (.int .u64 Y) ∧ w'.cell? ⟨w.heap.size + 1, 0, none⟩ = some (.int .i8 X) ∧ w'.cell? ⟨w.heap.size + 1, 1, none⟩ = some (.int .i16 s))
    (first | (refine ⟨?_, ?_, ?_, ?_⟩ <;> with_reducible assumption) | (go_keep; done))
    ((go_at_call 176; refine Calls.mono (HSP.out _ ((Below.refl _ _).drew)) ?_; rintro e w7 ⟨rfl, hE7, hO7⟩; have q0 := (World.cell?_of_block (w := w2.drew) (a := ⟨w.heap.size, 0, none⟩) (hO7.grown.block w.heap.size hl0 (by simp; omega))).trans p0; have q1 := (World.cell?_of_block (w := w2.drew) (a := ⟨w.heap.size, 1, none⟩) (hO7.grown.block w.heap.size hl0 (by simp; omega))).trans p1; have q2 := (World.cell?_of_block (w := w2.drew) (a := ⟨w.heap.size + 1, 0, none⟩) (hO7.grown.block (w.heap.size + 1) hl1 (by simp; omega))).trans p2; have q3 := (World.cell?_of_block (w := w2.drew) (a := ⟨w.heap.size + 1, 1, none⟩) (hO7.grown.block (w.heap.size + 1) hl1 (by simp; omega))).trans p3))
  have hbd : Below w.heap.size w w2.drew := HB2.out.trans (((Below.refl _ _).drew).mono HB2.out.size)
  have hOw : Only w w7 p 0 1024 := (Only.below hpw hbd).trans hO7
  have HF := hideH (Tab.short_set HT.out hE7 hOw)
  have HU := hideH (Upd.only hOw)
  clear hbd hOw hE7 hO7
  go_wp2_with fail
  exact bodyPost_ret (v := .tuple #[]) (results_none rfl _ _ _) rfl ⟨rfl, HF.out, HU.out⟩

end Go.Proofs.YtbddkkfakkedaaaGreatDoor
namespace Go.Proofs.YtbddkkfakkedaaaGreatDoor
open Go.RowKit
attribute [local go_sem ↓] Go.wp_at_zero Go.wp_at_succ
set_option linter.unusedVariables false

theorem Upd.keeps {w w2 w3 : World} {p m : Nat} {S : Nat → Nat × Nat} {L : Nat → Nat → Nat × Nat} (hT : Tab w p S m L) (hb : Below w.heap.size w w2) (hU : Upd w2 w3 p) (k : Nat) (hk : w.heap.size ≤ k) (hk2 : k < w2.heap.size) : w3.heap[k]? = w2.heap[k]? := by
  have hp := hT.short.lt
  obtain ⟨lo, c, xs, h2, h3, h4⟩ := hT.long
  have e := (World.cell?_of_block (a := ⟨p, 1024, none⟩) ((grownBy_of_below hb none).block p hp (by simp))).trans h2
  refine hU.block k hk2 (by omega) (fun g m' c' h => ?_)
  rw [e] at h
  have h5 := Option.some.inj h
  rw [h5] at h3
  have := (h3.lt g rfl).2
  omega
/-- spread into one of long's arrays. -/
theorem Tab.long_set {w w' : World} {p m q g c : Nat} {S : Nat → Nat × Nat} {L : Nat → Nat → Nat × Nat} {F : Nat → Nat × Nat} (h : Tab w p S m L) (hq : q < m)
    (hc : w.cell? ⟨p, 1024, none⟩ = some (.slice (some ⟨g, 0, none⟩) m c)) (hE : Ents w' g (q * 128) 64 F) (hO : Only w w' g (q * 128) (64 * 2)) : Tab w' p S m (fun j => if j = q then F else L j) := by
  obtain ⟨h1, lo, c', xs', h2, h3, h4⟩ := h
  rw [hc] at h2
  have e := Option.some.inj h2
  simp only [Value.slice.injEq, true_and] at e
  obtain ⟨rfl, rfl⟩ := e
  have hpg : p + 1 ≤ g := (h3.lt g rfl).1
  obtain ⟨ys, h3'⟩ := hO.owns _ _ _ _ _ _ h3
  refine ⟨h1.grown hO.grown (by simp; omega), some ⟨g, 0, none⟩, c, ys, (World.cell?_of_block (a := ⟨p, 1024, none⟩) (hO.grown.block p h1.lt (by simp; omega))).trans hc, h3', fun j hj => ⟨g, rfl, by omega, ?_⟩⟩
  by_cases hjq : j = q
  · subst hjq
    rw [if_pos rfl]
    exact hE
  · rw [if_neg hjq]
    obtain ⟨g', e', _, h5⟩ := h4 j hj
    simp only [Option.some.injEq, Addr.mk.injEq, and_true] at e'
    subst e'
    refine ⟨hE.lt, fun i hi => ?_, fun i hi => ?_, hE.free⟩
    · rw [hO.rest _ (by omega)]; exact h5.at0 i hi
    · rw [hO.rest _ (by omega)]; exact h5.at1 i hi

end Go.Proofs.YtbddkkfakkedaaaGreatDoor
namespace Go.Proofs.YtbddkkfakkedaaaGreatDoor
open Go.RowKit
attribute [local go_sem ↓] Go.wp_at_zero Go.wp_at_succ
set_option linter.unusedVariables false

theorem Upd.beneath {w w' : World} {p m B : Nat} {S : Nat → Nat × Nat} {L : Nat → Nat → Nat × Nat} (hT : Tab w p S m L) (hU : Upd w w' p) (hB : B ≤ p) : Below B w w' := by
  have hp := hT.short.lt
  refine ⟨hU.os, hU.tape, hU.output, hU.size, fun k hk => hU.block k (by omega) (by omega) (fun g m' c h => ?_)⟩
  obtain ⟨lo, c2, xs, h2, h3, _⟩ := hT.long
  rw [h2] at h
  have h5 := Option.some.inj h
  rw [h5] at h3
  have := (h3.lt g rfl).1
  omega
theorem cell_off {w : World} {k : Nat} {A : Array Value} {e : TypeId} {fz : Nat × Nat} {B g N c n : Nat} {e' : TypeId} {xs : List Value} (h : w.heap[k]? = some (.cells A e fz)) (ho : w.ownsRow B e' n (.slice (some ⟨g, 0, none⟩) N c) N xs) (hne : e ≠ e') : k ≠ g := by
  rintro rfl
  rcases ho.2 with ⟨h', _⟩ | ⟨g', cap', cur, h', _, hg, _⟩
  · simp at h'
  · simp only [Value.slice.injEq, Option.some.injEq, Addr.mk.injEq, and_true, true_and] at h'
    obtain ⟨rfl, rfl⟩ := h'
    rw [h] at hg
    simp only [Option.some.injEq, Obj.cells.injEq] at hg
    exact hne hg.2.1

theorem alloc2_heap (w : World) (A B : Array Value) (e e' : TypeId) : ((w.alloc (.cells A e)).alloc (.cells B e')).heap[w.heap.size]? = some (.cells A e (0, 0)) ∧ ((w.alloc (.cells A e)).alloc (.cells B e')).heap[w.heap.size + 1]? = some (.cells B e' (0, 0)) := by
  constructor
  · simp only [World.alloc, Array.getElem?_push, Array.size_push]
    simp
  · simp only [World.alloc, Array.getElem?_push, Array.size_push]
    simp

set_option maxRecDepth 100000 in
set_option maxHeartbeats 6400000 in
theorem put_long (p m s X Y P F Y2 q m' : Nat) (S S' : Nat → Nat × Nat) (L L' : Nat → Nat → Nat × Nat) (w : World) (hT : Tab w p S m L) (hs : s ≤ 320) (hX0 : 9 < X) (hX : X ≤ 15) (hP : 2 ^ (X - 9) = P) (hY : Y < 32768) (hF : Y % 512 = F) (hY2 : Y / 512 = Y2) (hY3 : Y2 < P) (hq : q < m') (hm : m' ≤ 513)
    (hlink : ∀ W, Tab W p S m L → Calls Tryz.prog 177 #[.pointer (some ⟨p, 0, none⟩), .int .u64 F] W fun e w' => e = .returned (.int .i16 q) ∧ Tab w' p S' m' L' ∧ Upd W w' p) :
    Calls Tryz.prog 169 #[.pointer (some ⟨p, 0, none⟩), .int .i16 s, .agg #[.int .i64 X, .int .u64 Y]] w fun e w' => e = .returned (.tuple #[]) ∧ Tab w' p S' m' (fun j => if j = q then fun i => if i % P = Y2 then (X, s) else L' q i else L' j) ∧ ∀ B, B ≤ p → Below B w w' := by
  obtain ⟨w2, hw2⟩ : ∃ w2, (w.alloc (.cells #[.int .i64 X, .int .u64 Y] 107)).alloc (.cells #[.int .i8 X, .int .i16 s] 243) = w2 := ⟨_, rfl⟩
  have hb2 : Below w.heap.size w w2 := by
    rw [← hw2]
    exact ((Below.refl _ _).alloc (Nat.le_refl _) _).alloc (by simp) _
  have hpw := hT.short.lt
  have hX8 : IntKind.i8.wrap (X : Int) = (X : Int) := by simp [IntKind.wrap, IntKind.bits, IntKind.signed]; omega
  have p0 : w2.cell? ⟨w.heap.size, 0, none⟩ = some (.int .i64 X) := by rw [← hw2]; simp [go_sem]
  have p1 : w2.cell? ⟨w.heap.size, 1, none⟩ = some (.int .u64 Y) := by rw [← hw2]; simp [go_sem]
  have p2 : w2.cell? ⟨w.heap.size + 1, 0, none⟩ = some (.int .i8 X) := by rw [← hw2]; simp [go_sem]
  have p3 : w2.cell? ⟨w.heap.size + 1, 1, none⟩ = some (.int .i16 s) := by rw [← hw2]; simp [go_sem]
  have HT := hideH hT
  have HLK := hideH (hlink w2 (hT.below hb2))
  have HB2 := hideH hb2
  have b9 : decide ((X : Int) ≤ 9) = false := decide_eq_false (by omega)
  have hFi : (Y : Int) % 512 = (F : Int) := by omega
  have hFt : (Y : Int).tmod 512 = (F : Int) := by rw [Int.tmod_eq_emod_of_nonneg (by omega)]; exact hFi
  have HW2 := hideH hw2
  have HP := hideH hP
  have hl0 := World.block_lt_of_cell? w2 _ p0
  have hl1 := World.block_lt_of_cell? w2 _ p2
  clear hT hb2 hP hlink
  go_enter Tryz.func169, Tryz.ntmps169
  go_wp2_with (go_at_call 177; refine Calls.mono HLK.out ?_)
  intro e w3 he hT3 hU3
  subst he
  have hk0 := Upd.keeps HT.out HB2.out hU3 w.heap.size (Nat.le_refl _) hl0
  have hk1 := Upd.keeps HT.out HB2.out hU3 (w.heap.size + 1) (by omega) hl1
  have q0 := (World.cell?_of_block (a := ⟨w.heap.size, 0, none⟩) hk0).trans p0
  have q1 := (World.cell?_of_block (a := ⟨w.heap.size, 1, none⟩) hk0).trans p1
  have q2 := (World.cell?_of_block (a := ⟨w.heap.size + 1, 0, none⟩) hk1).trans p2
  have q3 := (World.cell?_of_block (a := ⟨w.heap.size + 1, 1, none⟩) hk1).trans p3
  obtain ⟨lo3, c3, xs3, hc3, ho3, hen3⟩ := hT3.long
  obtain ⟨g, rfl, hpg, hEq⟩ := hen3 q hq
  have hg0 : w.heap.size ≠ g := cell_off (hk0.trans (by rw [← HW2.out]; exact (alloc2_heap w _ _ _ _).1)) ho3 (by decide)
  have hg1 : w.heap.size + 1 ≠ g := cell_off (hk1.trans (by rw [← HW2.out]; exact (alloc2_heap w _ _ _ _).2)) ho3 (by decide)
  have hl3 := Nat.lt_of_lt_of_le hl0 hU3.size
  have hl4 := Nat.lt_of_lt_of_le hl1 hU3.size
  have HSP := hideH (fun W (hW : Below w3.heap.size w3 W) => spread_any g (q * 128) 64 Y2 (X - 9) X s P (L' q) W (hEq.below hW) (by omega) (by omega) HP.out hY3)
  have HT3 := hideH hT3
  have HU3 := hideH hU3
  have hgw := hEq.lt
  have hY2i : (Y : Int) / 512 = (Y2 : Int) := by omega
  have hX9 : ((X - 9 : Nat) : Int) = (X : Int) - 9 := by omega
  have hX9w : IntKind.i64.wrap ((X - 9 : Nat) : Int) = ((X - 9 : Nat) : Int) := by rw [IntKind.wrap_i64]; omega
  obtain ⟨X9, hXX⟩ : ∃ x, X - 9 = x := ⟨_, rfl⟩
  rw [hXX] at HSP hX9 hX9w
  have hY2w : IntKind.u64.wrap (Y2 : Int) = (Y2 : Int) := by rw [IntKind.wrap_u64]; omega
  have hqm : (q : Int) < (m' : Int) := by omega
  have hq0 : (0 : Int) ≤ (q : Int) := by omega
  have hX9' : (X : Int) - 9 = (X9 : Int) := hX9.symm
  clear hT3 hU3 hEq hen3 ho3 p0 p1 p2 p3 hX9 hXX hk0 hk1
  have hp3 := HT3.out.short.lt
  go_upto_region 5 with fail
  clear hw2
  go_region_held3 (fun w' => w'.cell? ⟨w.heap.size, 0, none⟩ = some (.int .i64 X) ∧ w'.cell? ⟨w.heap.size, 1, none⟩ = some (.int .u64 Y) ∧ w'.cell? ⟨w.heap.size + 1, 0, none⟩ = some (.int .i8 X) ∧ w'.cell? ⟨w.heap.size + 1, 1, none⟩ = some (.int .i16 s) ∧ w'.cell? ⟨p, 1024, none⟩ = some (.slice (some ⟨g, 0, none⟩) m' c3))
    (first | (refine ⟨?_, ?_, ?_, ?_, ?_⟩ <;> with_reducible assumption) | (go_keep; done))
    ((go_at_call 176; refine Calls.mono (HSP.out _ ((Below.refl _ _).drew)) ?_; rintro e w7 ⟨rfl, hE7, hO7⟩; have r0 := (World.cell?_of_block (w := w3.drew) (a := ⟨w.heap.size, 0, none⟩) (hO7.grown.block (w.heap.size) hl3 (by simp; omega))).trans q0; have r1 := (World.cell?_of_block (w := w3.drew) (a := ⟨w.heap.size, 1, none⟩) (hO7.grown.block (w.heap.size) hl3 (by simp; omega))).trans q1; have r2 := (World.cell?_of_block (w := w3.drew) (a := ⟨w.heap.size + 1, 0, none⟩) (hO7.grown.block (w.heap.size + 1) hl4 (by simp; omega))).trans q2; have r3 := (World.cell?_of_block (w := w3.drew) (a := ⟨w.heap.size + 1, 1, none⟩) (hO7.grown.block (w.heap.size + 1) hl4 (by simp; omega))).trans q3; have r4 := (World.cell?_of_block (w := w3.drew) (a := ⟨p, 1024, none⟩) (hO7.grown.block p hp3 (by simp; omega))).trans hc3))
  have hO8 : Only w3 w7 g (q * 128) (64 * 2) := (Only.below hgw ((Below.refl _ _).drew)).trans hO7
  have HF := hideH (Tab.long_set HT3.out hq hc3 hE7 hO8)
  have HBB : Hid (∀ B, B ≤ p → Below B w w7) := fun B hB => by
    have x1 := HB2.out.mono (show B ≤ w.heap.size by omega)
    have x2 : Below B w2 w3 := Upd.beneath (HT.out.below HB2.out) HU3.out hB
    have x3 := x1.trans x2
    exact x3.grown hO8.grown (by have := x3.size; omega) (fun k e => by simp at e; omega)
  clear hO8 hO7 hE7
  go_wp2_with fail
  go_end0
  exact ⟨rfl, HF.out, HBB.out⟩

end Go.Proofs.YtbddkkfakkedaaaGreatDoor
namespace Go.Proofs.YtbddkkfakkedaaaGreatDoor
open Go.RowKit
attribute [local go_sem ↓] Go.wp_at_zero Go.wp_at_succ
set_option linter.unusedVariables false

theorem Upd.refl (w : World) (p : Nat) : Upd w w p := ⟨rfl, rfl, rfl, Nat.le_refl _, fun _ _ _ _ => rfl⟩
theorem put_any (zs : List Int) (k p m : Nat) (S : Nat → Nat × Nat) (L : Nat → Nat → Nat × Nat) (w : World) (hT : Tab w p S m L) (hI : TI zs k S m L) (hc : Coded zs k) (hk : SS zs 15 ≤ 32768) (hn : zs.length ≤ 320) :
    Calls Tryz.prog 169 #[.pointer (some ⟨p, 0, none⟩), .int .i16 k, .agg #[.int .i64 (ln zs k : Nat), .int .u64 (tr (num zs k) (ln zs k) : Nat)]] w fun e w' => e = .returned (.tuple #[]) ∧ (∃ S' m' L', Tab w' p S' m' L' ∧ TI zs (k + 1) S' m' L') ∧ ∀ B, B ≤ p → Below B w w' := by
  have hkl := hc.lt
  have hYl := num_lt hc hk
  have hpos := hc.pos
  have hmost := hc.most
  obtain ⟨X, hX⟩ : ∃ X, ln zs k = X := ⟨_, rfl⟩
  obtain ⟨Y, hY⟩ : ∃ Y, tr (num zs k) (ln zs k) = Y := ⟨_, rfl⟩
  have hYX : Y < 2 ^ X := by rw [← hY, ← hX]; exact tr_lt _ _
  have hIm := hI.most
  rw [hY]
  by_cases h9 : X ≤ 9
  · rw [hX]
    refine Calls.mono (put_short p m k X Y (2 ^ X) S L w hT (by omega) (by omega) h9 rfl hYX) ?_
    rintro e w' ⟨rfl, hT', hU⟩
    exact ⟨rfl, ⟨_, _, _, hT', hI.short hk hc (by omega) hX hY h9⟩, fun B hB => Upd.beneath hT hU hB⟩
  · have hP15 : 2 ^ X ≤ 2 ^ 15 := Nat.pow_le_pow_right (by decide) (by omega)
    have eP : 2 ^ X = 512 * 2 ^ (X - 9) := by
      rw [show X = 9 + (X - 9) from by omega, Nat.pow_add, show 9 + (X - 9) - 9 = X - 9 from by omega]
    have hY2 : Y / 512 < 2 ^ (X - 9) := by rw [eP] at hYX; omega
    rw [hX]
    by_cases h16 : (S (Y % 512)).1 = 16
    · refine Calls.mono (put_long p m k X Y (2 ^ (X - 9)) (Y % 512) (Y / 512) (S (Y % 512)).2 m S S L L w hT (by omega) (by omega) (by omega) rfl (by omega) rfl rfl hY2 (hI.l2 _ h16) (by omega) ?_) ?_
      · intro W hW
        refine Calls.mono (link_has p m (Y % 512) S L W hW (by omega) h16 (by have := hI.l3 (Y % 512); omega)) ?_
        rintro e w' ⟨rfl, rfl⟩
        exact ⟨rfl, hW, Upd.refl _ _⟩
      · rintro e w' ⟨rfl, hT', hB⟩
        exact ⟨rfl, ⟨_, _, _, hT', hI.long_has hk hc (by omega) hX hY hYX (by omega) h16⟩, hB⟩
    · refine Calls.mono (put_long p m k X Y (2 ^ (X - 9)) (Y % 512) (Y / 512) m (m + 1) S (fun i => if i = Y % 512 then (16, m) else S i) L (fun j => if j = m then fun _ => (0, 0) else L j) w hT (by omega) (by omega) (by omega) rfl (by omega) rfl rfl hY2 (by omega) (by omega) ?_) ?_
      · intro W hW
        exact link_new p m (Y % 512) S L W hW (by omega) (by omega) h16 (hI.l1 _) (by have := hI.l3 (Y % 512); omega)
      · rintro e w' ⟨rfl, hT', hB⟩
        have e1 : (fun j => if j = m then fun i => if i % 2 ^ (X - 9) = Y / 512 then (X, k) else (if m = m then fun _ => (0, 0) else L m) i else (if j = m then fun _ => (0, 0) else L j)) = (fun j => if j = m then fun i => if i % 2 ^ (X - 9) = Y / 512 then (X, k) else (0, 0) else L j) := by
          funext j
          by_cases h : j = m
          · rw [if_pos h, if_pos h, if_pos rfl]
          · rw [if_neg h, if_neg h, if_neg h]
        exact ⟨rfl, ⟨_, _, _, hT', by rw [e1]; exact hI.long_new hk hc (by omega) hX hY hYX (by omega) h16⟩, hB⟩

theorem zeroTab_eq : Tryz.zeroCells247.toList = zz 512 ++ [.slice none 0 0] := by kernel_rfl
theorem Tab.new (w : World) (t : TypeId) : Tab (w.alloc (.cells Tryz.zeroCells247 t)) w.heap.size (fun _ => (0, 0)) 0 (fun _ _ => (0, 0)) := by
  have hl := zz_len 512
  have hat : ∀ j u, (zz 512 ++ [.slice none 0 0])[j]? = some u → (w.alloc (.cells Tryz.zeroCells247 t)).cell? ⟨w.heap.size, j, none⟩ = some u := fun j u h => by
    have h2 := alloc_at w Tryz.zeroCells247 t j u (by rw [zeroTab_eq]; exact h)
    rw [Addr.add_lit, Nat.zero_add] at h2
    exact h2
  refine ⟨⟨by simp, fun i hi => ?_, fun i hi => ?_, fun o => by simp [go_sem]⟩, none, 0, [], ?_, World.ownsRow_nil _ _ _ _, fun j hj => by omega⟩
  · refine hat _ _ ?_
    rw [Nat.zero_add, List.getElem?_append_left (by omega)]
    exact (zz_at 512 i hi).1
  · refine hat _ _ ?_
    rw [Nat.zero_add, List.getElem?_append_left (by omega)]
    exact (zz_at 512 i hi).2
  · refine hat _ _ ?_
    rw [List.getElem?_append_right (by omega), hl]
    rfl
set_option maxRecDepth 100000 in
set_option maxHeartbeats 6400000 in
theorem newTab_any (zs : List Int) (ao : Option Addr) (cap n : Nat) (w : World) (hR : Reads w ao n (code zs)) (hn : n = zs.length) (hn3 : zs.length ≤ 320) (ho : okL zs) (hk : SS zs 15 ≤ 32768) :
    Calls Tryz.prog 155 #[.slice ao n cap] w fun e w' => ∃ p S m L, e = .returned (.pointer (some ⟨p, 0, none⟩)) ∧ w.heap.size ≤ p ∧ Tab w' p S m L ∧ TI zs n S m L ∧ Below w.heap.size w w' := by
  have HT0 := hideH (Tab.new w 247)
  have HB0 : Hid (Below w.heap.size w (w.alloc (.cells Tryz.zeroCells247 247))) := (Below.refl _ _).alloc (Nat.le_refl _) _
  have HN := hideH hn
  have HR := hideH hR
  have HK := hideH hk
  have HOK := hideH ho
  have hn4 : n ≤ 320 := by omega
  clear hn hR hk ho
  go_enter Tryz.func155, Tryz.ntmps155
  go_wp2_with fail
  go_loopw [10] (fun i wr => ∃ k : Nat, k ≤ n ∧ i = .int .i64 k ∧ Hid (∃ S m L, Tab wr w.heap.size S m L ∧ TI zs k S m L) ∧ Hid (Below w.heap.size w wr)) (fun i _ => n - (intOf i).toNat)
  case atStart => exact ⟨0, Nat.zero_le _, rfl, ⟨_, _, _, HT0.out, TI.zero zs⟩, HB0⟩
  case round =>
    clear HT0 HB0
    obtain ⟨k, hkn, rfl, HX, HB⟩ := hrel
    by_cases hlt : k < n
    · obtain ⟨g, rfl, hC⟩ := HR.out (by omega)
      obtain ⟨S, m, L, hT, hI⟩ := HX.out
      have hgw : g < w.heap.size := World.block_lt_of_cell? w _ (hC.at0 k hlt)
      have c0 := (HB.out.cell (p := ⟨g, k * 2, none⟩) hgw).trans (hC.at0 k hlt)
      have c1 := (HB.out.cell (p := ⟨g, k * 2 + 1, none⟩) hgw).trans (hC.at1 k hlt)
      have hkw := wrap_i16 k (by omega)
      by_cases h0 : ln zs k = 0
      · have hc0 : code zs k = (0, 0) := by rw [code_ln, if_pos h0]
        rw [hc0] at c0 c1
        have HB2 : Hid (∀ A t, Below w.heap.size w (wr.alloc (.cells A t))) := fun A t => HB.out.trans (((Below.refl _ _).alloc (Nat.le_refl _) _).mono HB.out.size)
        have HX2 : Hid (∀ A t, ∃ S m L, Tab (wr.alloc (.cells A t)) w.heap.size S m L ∧ TI zs (k + 1) S m L) := fun A t => ⟨S, m, L, hT.below ((Below.refl _ _).alloc (Nat.le_refl _) _), hI.skip h0⟩
        clear hT hI hC HX h0 hc0
        go_wp2_with fail
        exact ⟨⟨k + 1, by omega, by go_num, HX2.out _ _, HB2.out _ _⟩, by simp [intOf]; omega⟩
      · have hc : Coded zs k := Coded.of HOK.out (by have := HN.out; omega) h0
        have hcc : code zs k = (ln zs k, tr (num zs k) (ln zs k)) := by rw [code_ln, if_neg h0]
        rw [hcc] at c0 c1
        have HP := hideH (fun A t => put_any zs k w.heap.size m S L (wr.alloc (.cells A t)) (hT.below ((Below.refl _ _).alloc (Nat.le_refl _) _)) hI hc HK.out hn3)
        have hX0 : (0 : Int) < (ln zs k : Int) := by have := hc.pos; omega
        dsimp only at c0 c1
        have HB2 : Hid (∀ A t, Below w.heap.size w (wr.alloc (.cells A t))) := fun A t => HB.out.trans (((Below.refl _ _).alloc (Nat.le_refl _) _).mono HB.out.size)
        generalize ln zs k = X at *
        generalize tr (num zs k) X = Y at *
        clear hT hI hC HX h0 hcc hc
        go_wp2_with fail
        refine Calls.mono (HP.out _ _) ?_
        rintro e w' ⟨rfl, hX, hB⟩
        have HB3 := hideH ((HB2.out _ _).trans (hB w.heap.size (Nat.le_refl _)))
        have HX3 := hideH hX
        clear hX hB
        go_wp2_with fail
        exact ⟨⟨k + 1, by omega, by go_num, HX3, HB3⟩, by simp [intOf]; omega⟩
    · have e : k = n := by omega
      subst e
      obtain ⟨S, m, L, hT, hI⟩ := HX.out
      have HT := hideH hT
      have HI := hideH hI
      clear hT hI
      go_wp2_with fail
      go_ret
      exact ⟨w.heap.size, S, m, L, rfl, Nat.le_refl _, HT.out, HI.out, HB.out⟩
end Go.Proofs.YtbddkkfakkedaaaGreatDoor
namespace Go.Proofs.YtbddkkfakkedaaaGreatDoor
open Go.RowKit
attribute [local go_sem ↓] Go.wp_at_zero Go.wp_at_succ
set_option linter.unusedVariables false

/-- A table that answers for zs. -/
structure TabOf (zs : List Int) (w : World) (p : Nat) (S : Nat → Nat × Nat) (m : Nat) (L : Nat → Nat → Nat × Nat) : Prop where
  tab : Tab w p S m L
  l1 : ∀ i, (S i).1 ≤ 16
  l2 : ∀ i, (S i).1 = 16 → (S i).2 < m
  l3 : ∀ i, (S i).2 ≤ 320
  l4 : ∀ i j, (L i j).1 ≤ 15 ∧ (L i j).2 ≤ 320
  ans : ∀ b n k s l : Nat, n ≤ 64 → AnsT (look S L (b % 2 ^ n)) n k s l → AnsN zs b n k s l
theorem newTab_of (zs : List Int) (ao : Option Addr) (cap : Nat) (w : World) (hR : Reads w ao (nC zs) (code zs)) :
    Calls Tryz.prog 155 #[.slice ao (nC zs) cap] w fun e w' => ∃ p S m L, e = .returned (.pointer (some ⟨p, 0, none⟩)) ∧ w.heap.size ≤ p ∧ TabOf zs w' p S m L ∧ Below w.heap.size w w' := by
  by_cases hok : okC zs = true
  · obtain ⟨h1, h2, h3⟩ := okC_out hok
    have hnC : nC zs = zs.length := by simp [nC, hok]
    rw [hnC] at hR ⊢
    refine Calls.mono (newTab_any zs ao cap zs.length w hR rfl h2 h1 h3) ?_
    rintro e w' ⟨p, S, m, L, rfl, hp, hT, hI, hB⟩
    exact ⟨p, S, m, L, rfl, hp, ⟨hT, hI.l1, hI.l2, hI.l3, hI.l4, fun b n k s l hn ha => AnsN.yes hok hn (hI.ans h3 ha)⟩, hB⟩
  · have hnC : nC zs = 0 := by simp [nC, hok]
    rw [hnC]
    refine Calls.mono (newTab_any [] ao cap 0 w (fun h => by omega) rfl (by simp) (fun z hz => by cases hz) (by decide +kernel)) ?_
    rintro e w' ⟨p, S, m, L, rfl, hp, hT, hI, hB⟩
    refine ⟨p, S, m, L, rfl, hp, ⟨hT, hI.l1, hI.l2, hI.l3, hI.l4, fun b n k s l hn ha => ?_⟩, hB⟩
    rcases hI.fit (b % 2 ^ n) with ⟨t, h1, _⟩ | ⟨_, h1⟩
    · omega
    · rw [h1] at ha
      unfold AnsT at ha
      rw [if_pos rfl] at ha
      obtain ⟨rfl, rfl, rfl⟩ := ha
      exact AnsN.no (fun h => hok h.1)
theorem TabOf.next (zs : List Int) (p m b n : Nat) (S : Nat → Nat × Nat) (L : Nat → Nat → Nat × Nat) (w : World) (h : TabOf zs w p S m L) (hb : b < 2 ^ 64) (hn : n ≤ 64) :
    Calls Tryz.prog 170 #[.pointer (some ⟨p, 0, none⟩), .int .u64 b, .int .i64 n] w fun e w' => (∃ k s l : Nat, e = .returned (.agg #[.int .i64 k, .int .i64 s, .int .i64 l]) ∧ AnsN zs b n k s l) ∧ Below w.heap.size w w' := by
  refine Calls.mono (tnext_any p m b n 0 (b % 2 ^ n) S L w h.tab hb hn rfl h.l1 h.l2 h.l3 h.l4) ?_
  rintro e w' ⟨⟨k, s, l, rfl, ha⟩, hB⟩
  exact ⟨⟨k, s, l, rfl, h.ans b n k s l hn ha⟩, hB⟩

end Go.Proofs.YtbddkkfakkedaaaGreatDoor
namespace Go.Proofs.YtbddkkfakkedaaaGreatDoor
open Go.RowKit
attribute [local go_sem ↓] Go.wp_at_zero Go.wp_at_succ
set_option linter.unusedVariables false

/-- Numbers that are the call's own. -/
def OwnsI (B : Nat) (w : World) (ao : Option Addr) (cap : Nat) (zs : List Int) : Prop := w.ownsRow B 2 1 (.slice ao zs.length cap) zs.length (zs.map (Value.int .i64))
theorem OwnsI.of {B : Nat} {w : World} {v : Value} {n : Nat} {zs : List Int} (h : w.ownsRow B 2 1 v n (zs.map (Value.int .i64))) : ∃ ao cap, v = .slice ao zs.length cap ∧ OwnsI B w ao cap zs := by
  have hl : n = zs.length := by have := h.1; simp at this; omega
  subst hl
  rcases h.2 with ⟨rfl, h0⟩ | ⟨g, cap, cur, rfl, h2⟩
  · refine ⟨none, 0, by rw [h0], ?_⟩
    unfold OwnsI
    rw [h0] at h ⊢
    exact h
  · exact ⟨_, cap, rfl, h⟩
theorem OwnsI.grown {B : Nat} {w w' : World} {row : Option Nat} {ao : Option Addr} {cap : Nat} {zs : List Int} (h : OwnsI B w ao cap zs) (hg : w.grownBy w' row) (hne : ∀ k, row = some k → blk ao ≠ some k) : OwnsI B w' ao cap zs := by
  refine World.ownsRow.kept h hg ?_
  cases ao with
  | none => exact .inl rfl
  | some ad => exact .inr (fun he => hne _ he.symm rfl)
theorem OwnsI.below {B : Nat} {w w' : World} {ao : Option Addr} {cap : Nat} {zs : List Int} (h : OwnsI B w ao cap zs) (hb : Below w.heap.size w w') : OwnsI B w' ao cap zs :=
  h.grown (grownBy_of_below hb none) (fun _ e => by cases e)
theorem OwnsI.base {B : Nat} {w : World} {ao : Option Addr} {cap : Nat} {zs : List Int} (h : OwnsI B w ao cap zs) : ∀ g, blk ao = some g → B ≤ g := by
  intro g e
  rcases h.2 with ⟨h1, _⟩ | ⟨g', cap', cur, h1, h2, _⟩
  · simp only [Value.slice.injEq] at h1
    rw [h1.1] at e
    cases e
  · simp only [Value.slice.injEq] at h1
    rw [h1.1] at e
    simp [blk] at e
    omega
theorem OwnsI.at {B : Nat} {w : World} {ao : Option Addr} {cap : Nat} {zs : List Int} (h : OwnsI B w ao cap zs) (h0 : 0 < zs.length) : ∃ g, ao = some ⟨g, 0, none⟩ ∧ B ≤ g ∧ g < w.heap.size ∧ zs.length ≤ cap := by
  rcases h.2 with ⟨_, h1⟩ | ⟨g', cap', cur, h1, h2, h3, h4, _⟩
  · omega
  · simp only [Value.slice.injEq, true_and] at h1
    obtain ⟨rfl, rfl⟩ := h1
    exact ⟨g', rfl, h2, (Array.getElem?_eq_some_iff.1 h3).1, h4⟩
theorem OwnsI.row {B : Nat} {w : World} {ao : Option Addr} {cap : Nat} {zs : List Int} (h : OwnsI B w ao cap zs) : Row64 w ao zs := by
  by_cases h0 : 0 < zs.length
  · obtain ⟨g, rfl, _⟩ := h.at h0
    exact Row64.owned h
  · intro i hi
    omega
theorem OwnsI.cell {B g : Nat} {w : World} {cap : Nat} {zs : List Int} (h : OwnsI B w (some ⟨g, 0, none⟩) cap zs) {k : Nat} (hk : k < zs.length) : w.cell? ⟨g, k, none⟩ = some (.int .i64 (zs.getD k 0)) := by
  have := World.ownsRow.cellAt h k (by omega)
  rw [this]
  simp [List.getD, hk]
theorem OwnsI.set {B g : Nat} {w : World} {cap : Nat} {zs : List Int} (h : OwnsI B w (some ⟨g, 0, none⟩) cap zs) (k : Nat) (x : Int) : OwnsI B (w.setCell ⟨g, k, none⟩ (.int .i64 x)) (some ⟨g, 0, none⟩) cap (zs.set k x) := by
  have h1 := (World.ownsRow.stored h k (.int .i64 x)).1
  unfold OwnsI
  rw [List.length_set, List.map_set]
  exact h1
theorem ownI0 (w : World) (B : Nat) (hB : B ≤ w.heap.size) : OwnsI B (w.alloc (.cells #[] 2)) (some ⟨w.heap.size, 0, none⟩) 0 [] :=
  World.ownsRow_lit w #[] 0 hB (by unfold maxLen; omega) rfl
theorem blk_own64 (ao : Option Addr) (n cap : Nat) : (Value.slice ao n cap).ownBlock = blk ao := by cases ao <;> rfl
theorem news_one (w : World) (x : Value) (t : TypeId) : ∀ j u, ([x] : List Value)[j]? = some u → (w.alloc (.cells #[x] t)).cell? ((⟨w.heap.size, 0, none⟩ : Addr).add j) = some u := by
  intro j u h
  exact alloc_at w #[x] t j u h
theorem Tryz.info_i64d : (Tryz.prog.info? 2).map (fun i => (i.zero, i.size, i.bytes)) = some (some (.int .i64 0), 1, 8) := by kernel_rfl
theorem OwnsI.free {B g : Nat} {w : World} {cap : Nat} {zs : List Int} (h : OwnsI B w (some ⟨g, 0, none⟩) cap zs) (k : Nat) : w.frozen? ⟨g, k, none⟩ = false := World.ownsRow.frozenAt h k
theorem OwnsI.lower {B B' : Nat} {w : World} {ao : Option Addr} {cap : Nat} {zs : List Int} (h : OwnsI B w ao cap zs) (hB : B' ≤ B) : OwnsI B' w ao cap zs := by
  refine ⟨h.1, ?_⟩
  rcases h.2 with h2 | ⟨g, c, cur, h3, h4, h5⟩
  · exact .inl h2
  · exact .inr ⟨g, c, cur, h3, Nat.le_trans hB h4, h5⟩
end Go.Proofs.YtbddkkfakkedaaaGreatDoor
namespace Go.Proofs.YtbddkkfakkedaaaGreatDoor
open Go.RowKit
attribute [local go_sem ↓] Go.wp_at_zero Go.wp_at_succ
set_option linter.unusedVariables false

/-- Numbers one behind the other. -/
def mkI (k n : Nat) : List Int := (List.range n).map (fun i => ((k + i : Nat) : Int))
theorem mkI_len (k n : Nat) : (mkI k n).length = n := by simp [mkI]
theorem mkI_at (k n j : Nat) (h : j < n) : (mkI k n).getD j 0 = ((k + j : Nat) : Int) := by simp [mkI, List.getD, h]
/-- The first j of zs marked. -/
def mkd (zs : List Int) (k j : Nat) : List Int := mkI k j ++ zs.drop j
theorem mkd_len (zs : List Int) (k j : Nat) (h : j ≤ zs.length) : (mkd zs k j).length = zs.length := by simp [mkd, mkI]; omega
theorem mkd_zero (zs : List Int) (k : Nat) : mkd zs k 0 = zs := by simp [mkd, mkI]
theorem mkd_all (zs : List Int) (k : Nat) : mkd zs k zs.length = mkI k zs.length := by simp [mkd]
theorem mkd_succ (zs : List Int) (k j : Nat) (h : j < zs.length) : (mkd zs k j).set j ((k + j : Nat) : Int) = mkd zs k (j + 1) := by
  unfold mkd
  rw [List.set_append_right _ _ (by rw [mkI_len]; exact Nat.le_refl _), mkI_len, Nat.sub_self, List.drop_eq_getElem_cons h, List.set_cons_zero]
  simp [mkI, List.range_succ]
end Go.Proofs.YtbddkkfakkedaaaGreatDoor
