import Derived.Test.YtjknaigdlkpiaaaRing
import Derived.Test.YtjknaigdlkpiaaaWinB
import Derived.Laws.CopyOwn
import Derived.Deep.RegionWith
import Derived.Deep.CutRange
namespace Go.Proofs.Ytjknaigdlkpiaaa
open Go.RowKit
attribute [local go_sem ↓] Go.wp_at_zero Go.wp_at_succ
set_option linter.unusedVariables false

theorem app3_0 (L : List Value) (a b c : Value) (n : Nat) (h : L.length = n) : (L ++ [a, b, c])[n]? = some a := by subst h; simp
theorem app3_1 (L : List Value) (a b c : Value) (n : Nat) (h : L.length = n) : (L ++ [a, b, c])[n + 1]? = some b := by subst h; simp
theorem app3_2 (L : List Value) (a b c : Value) (n : Nat) (h : L.length = n) : (L ++ [a, b, c])[n + 2]? = some c := by subst h; simp
theorem app3_set1 (L : List Value) (a b c d : Value) (n : Nat) (h : L.length = n) : (L ++ [a, b, c]).set (n + 1) d = L ++ [a, d, c] := by subst h; rw [List.set_append_right _ _ (by omega)]; simp
theorem app3_set2 (L : List Value) (a b c d : Value) (n : Nat) (h : L.length = n) : (L ++ [a, b, c]).set (n + 2) d = L ++ [a, b, d] := by subst h; rw [List.set_append_right _ _ (by omega)]; simp

/-- A ring in memory. -/
structure RingAt (w : World) (g : Nat) (rs : List Int) (s p c : Int) : Prop where
  heap : w.heap[g]? = some (.cells (rs.map (Value.int .u8) ++ [Value.int .i64 s, Value.int .i64 p, Value.int .i64 c]).toArray 94 (0, 0))
  len : rs.length = 32768

theorem cell_of_heap {w : World} {g off : Nat} {L : List Value} {t : TypeId} {v : Value} (h : w.heap[g]? = some (.cells L.toArray t (0, 0))) (hv : L[off]? = some v) : w.cell? ⟨g, off, none⟩ = some v := by
  simp [World.cell?, h, hv]
theorem frozen_of_heap {w : World} {g off : Nat} {L : List Value} {t : TypeId} (h : w.heap[g]? = some (.cells L.toArray t (0, 0))) : w.frozen? ⟨g, off, none⟩ = false := by
  simp [World.frozen?, h]
theorem heap_set {w : World} {g off : Nat} {L : List Value} {t : TypeId} (v : Value) (h : w.heap[g]? = some (.cells L.toArray t (0, 0))) : (w.setCell ⟨g, off, none⟩ v).heap[g]? = some (.cells (L.set off v).toArray t (0, 0)) := by
  rw [setCell_eq_setRow w g off L.toArray t (0, 0) v h, setRow_heap w g _ _ t _ h]
  simp

theorem RingAt.lt {w : World} {g : Nat} {rs : List Int} {s p c : Int} (h : RingAt w g rs s p c) : g < w.heap.size := (Array.getElem?_eq_some_iff.1 h.heap).1
theorem RingAt.three {w : World} {g : Nat} {rs : List Int} {s p c : Int} (h : RingAt w g rs s p c) :
    w.cell? ⟨g, 32768, none⟩ = some (.int .i64 s) ∧ w.cell? ⟨g, 32769, none⟩ = some (.int .i64 p) ∧ w.cell? ⟨g, 32770, none⟩ = some (.int .i64 c) ∧ ∀ off, w.frozen? ⟨g, off, none⟩ = false := by
  have hl : (rs.map (Value.int .u8)).length = 32768 := by rw [List.length_map, h.len]
  exact ⟨cell_of_heap h.heap (app3_0 _ _ _ _ _ hl), cell_of_heap h.heap (app3_1 _ _ _ _ _ hl), cell_of_heap h.heap (app3_2 _ _ _ _ _ hl), fun off => frozen_of_heap h.heap⟩
theorem RingAt.byte {w : World} {g : Nat} {rs : List Int} {s p c : Int} (h : RingAt w g rs s p c) {i : Nat} (hi : i < rs.length) : w.cell? ⟨g, i, none⟩ = some (.int .u8 (rs.getD i 0)) := by
  refine cell_of_heap h.heap ?_
  rw [List.getElem?_append_left (by simpa using hi)]
  simp [List.getD, hi]
theorem RingAt.setByte {w : World} {g : Nat} {rs : List Int} {s p c : Int} (h : RingAt w g rs s p c) {i : Nat} (hi : i < rs.length) (x : Int) : RingAt (w.setCell ⟨g, i, none⟩ (.int .u8 x)) g (rs.set i x) s p c := by
  refine ⟨?_, by rw [List.length_set]; exact h.len⟩
  rw [heap_set _ h.heap, List.set_append_left _ _ (by simpa using hi), List.map_set]
theorem RingAt.setP {w : World} {g : Nat} {rs : List Int} {s p c : Int} (h : RingAt w g rs s p c) (x : Int) : RingAt (w.setCell ⟨g, 32769, none⟩ (.int .i64 x)) g rs s x c := by
  have hl : (rs.map (Value.int .u8)).length = 32768 := by rw [List.length_map, h.len]
  refine ⟨?_, h.len⟩
  rw [heap_set _ h.heap, app3_set1 _ _ _ _ _ 32768 hl]
theorem RingAt.setC {w : World} {g : Nat} {rs : List Int} {s p c : Int} (h : RingAt w g rs s p c) (x : Int) : RingAt (w.setCell ⟨g, 32770, none⟩ (.int .i64 x)) g rs s p x := by
  have hl : (rs.map (Value.int .u8)).length = 32768 := by rw [List.length_map, h.len]
  refine ⟨?_, h.len⟩
  rw [heap_set _ h.heap, app3_set2 _ _ _ _ _ 32768 hl]
theorem RingAt.grown {w w' : World} {row : Option Nat} {g : Nat} {rs : List Int} {s p c : Int} (h : RingAt w g rs s p c) (hg : w.grownBy w' row) (hne : some g ≠ row) : RingAt w' g rs s p c :=
  ⟨(hg.block g h.lt hne).trans h.heap, h.len⟩
theorem RingAt.below {w w' : World} {g : Nat} {rs : List Int} {s p c : Int} (h : RingAt w g rs s p c) (hb : Below w.heap.size w w') : RingAt w' g rs s p c := h.grown (grownBy_of_below hb none) (by simp)
theorem RingAt.drewN {w : World} {g : Nat} {rs : List Int} {s p c : Int} (h : RingAt w g rs s p c) (k : Nat) : RingAt (w.drewN k) g rs s p c := ⟨h.heap, h.len⟩

theorem ring_grown (w : World) (g : Nat) (x y : Value) : w.grownBy ((w.setCell ⟨g, 32769, none⟩ x).setCell ⟨g, 32770, none⟩ y).drew.drew (some g) := by
  have h := grownBy_trans (grownBy_setCell w ⟨g, 32769, none⟩ x) (grownBy_setCell _ ⟨g, 32770, none⟩ y)
  exact ⟨h.os, h.tape, h.output, h.size, h.block⟩

set_option maxHeartbeats 3200000 in
/-- moveOn. -/
theorem moveOn_any (g : Nat) (rs : List Int) (s p c m : Nat) (w : World) (h : RingAt w g rs s p c) (hs0 : 0 < s) (hs : s ≤ 32768) (hp : p < s) (hc : c ≤ s) (hm : m ≤ s) :
    Calls Try.prog 65 #[.pointer (some ⟨g, 0, none⟩), .int .i64 m] w fun e w' => e = .returned (.tuple #[]) ∧ RingAt w' g rs s (wr s (p + m) : Nat) (min (c + m) s : Nat) ∧ w.grownBy w' (some g) ∧ w'.heap.size = w.heap.size := by
  obtain ⟨c0, c1, c2, fz⟩ := h.three
  have f1 := fz 32769
  have f2 := fz 32770
  have hq : ((p : Int) + (m : Int)).tmod (s : Int) = ((wr s (p + m) : Nat) : Int) := by
    rw [← wr_mod (by omega), ← Int.natCast_add, ← Int.ofNat_tmod]
  have R1 := hide1 (h.setP ((wr s (p + m) : Nat) : Int))
  have R2 := hide1 ((h.setP ((wr s (p + m) : Nat) : Int)).setC ((min (c + m) s : Nat) : Int))
  go_enter Try.func65, Try.ntmps65
  clear fz
  go_wp2
  go_region
  go_wp2
  go_region
  go_wp2
  · go_end0
    refine ⟨rfl, ?_, ?_, by simp⟩
    · have hR := R2.out
      rw [Nat.min_eq_right (by omega)] at hR ⊢
      exact (hR.drewN 1).drewN 1
    · exact ring_grown _ _ _ _
  · go_end0
    refine ⟨rfl, ?_, ?_, by simp⟩
    · have hR := R2.out
      rw [Nat.min_eq_left (by omega), Int.natCast_add] at hR
      rw [Nat.min_eq_left (by omega), Int.natCast_add]
      exact (hR.drewN 1).drewN 1
    · exact ring_grown _ _ _ _

theorem lastN_app (n : Nat) (a b : List Int) : lastN n (a ++ lastN n b) = lastN n (a ++ b) := by
  refine ext_getD (by simp [lastN_len]; omega) ?_
  intro i hi
  simp only [lastN_len, List.length_append] at hi
  rw [lastN_getD, lastN_getD, getD_app, getD_app, lastN_getD]
  simp only [lastN_len, List.length_append]
  split <;> split <;> first | omega | (congr 1; omega)
theorem Row.last {w : World} {ao : Option Addr} {zs : List Int} (h : Row w ao zs) {k : Nat} (hk : 0 < k) : Row w (ao.map (·.add k)) (zs.drop k) := by
  intro i hi
  rw [List.length_drop] at hi
  obtain ⟨b, off, rfl, hc⟩ := h (k + i) (by omega)
  refine ⟨b, off + k, by simp [Addr.add_lit], ?_⟩
  rw [Nat.add_assoc, hc]
  simp [List.getD]

theorem Try.size_u8 : (Try.prog.info? 5).map (·.size) = some 1 := by kernel_rfl
theorem Row.take {w : World} {ao : Option Addr} {zs : List Int} (h : Row w ao zs) (k : Nat) : Row w ao (zs.take k) := by
  intro i hi
  simp only [List.length_take] at hi
  obtain ⟨b, off, e, hc⟩ := h i (by omega)
  refine ⟨b, off, e, ?_⟩
  rw [hc]
  simp [List.getD, (by omega : i < k)]
theorem Row.first {w : World} {ao : Option Addr} {zs : List Int} (h : Row w ao zs) (h0 : 0 < zs.length) : ∃ ad, ao = some ad ∧ ∀ j v, (zs.map (Value.int .u8))[j]? = some v → w.cell? (ad.add j) = some v := by
  obtain ⟨b, off, rfl, _⟩ := h 0 h0
  exact ⟨_, rfl, h.news⟩
theorem Row.under {w w' : World} {g : Nat} {ao : Option Addr} {zs : List Int} (h : Row w ao zs) (hb : Below g w w') (hl : ∀ ad, ao = some ad → ad.block < g) : Row w' ao zs := by
  intro i hi
  obtain ⟨b, off, rfl, hc⟩ := h i hi
  exact ⟨b, off, rfl, by rw [hb.cell (p := ⟨b, off + i, none⟩) (hl ⟨b, off, none⟩ rfl)]; exact hc⟩
theorem splice_map (rs d : List Int) (T : List Value) (p : Nat) (h : p + d.length ≤ rs.length) : splice (rs.map (Value.int .u8) ++ T) p (d.map (Value.int .u8)) = (splice rs p d).map (Value.int .u8) ++ T := by
  unfold splice
  rw [List.take_append_of_le_length (by rw [List.length_map]; omega), List.length_map, List.drop_append_of_le_length (by rw [List.length_map]; omega)]
  simp [List.map_take, List.map_drop]
theorem ring_splice {w w' : World} {g : Nat} {rs d : List Int} {s p c : Int} {o : Nat} (h : RingAt w g rs s p c) (hf : o + d.length ≤ 32768) (hh : w'.heap[g]? = some (.cells (splice (rs.map (Value.int .u8) ++ [Value.int .i64 s, Value.int .i64 p, Value.int .i64 c]) o (d.map (Value.int .u8))).toArray 94 (0, 0))) : RingAt w' g (splice rs o d) s p c := by
  have hl := h.len
  rw [splice_map _ _ _ _ (by omega)] at hh
  exact ⟨hh, by rw [length_splice _ _ _ (by omega)]; exact hl⟩
theorem run_cut (ao : Option Addr) (D : List Int) (cap k : Nat) (hk : k ≤ D.length) (hf : D.length ≤ cap) :
    ∃ ao2, (if cap = k then ao else ao.map (fun x => x.add k)) = ao2 ∧ (∀ W : World, (Instr.slice 22 (.slice ao D.length cap) (some (.int .i64 k)) none none).run Try.prog W = .ok (.slice ao2 (D.length - k) (cap - k)) W) ∧ ∀ w : World, Row w ao D → Row w ao2 (D.drop k) := by
  obtain ⟨i0, hi, hz0, hz1, hz2⟩ := info_parts Try.info_u8
  refine ⟨if cap = k then ao else ao.map (·.add k), rfl, ?_, ?_⟩
  · intro W
    have hel : Try.prog.elem 22 = 5 := by kernel_rfl
    rw [run_slice_any (P := Try.prog) W _ _ _ _ (by kernel_rfl), hel]
    simp [Instr.sliceBounds, run_sliceBound, sizeOf, typeInfo, hi, hz1, sliced, hk]
  · intro w hr
    split
    · rename_i e
      intro i hi
      rw [List.length_drop] at hi
      omega
    · rcases Nat.eq_zero_or_pos k with rfl | h0
      · intro i hi
        simp only [List.drop_zero] at hi ⊢
        obtain ⟨b, off, rfl, hc⟩ := hr i hi
        exact ⟨b, off, by simp [Addr.add_lit], hc⟩
      · exact hr.last h0
theorem Try.arr_room : Try.prog.underlying 92 = some (.array (Try.prog.arrayLen 92) (Try.prog.elem 92)) ∧ Try.prog.arrayLen 92 = 32768 ∧ Try.prog.elem 92 = 5 := ⟨by kernel_rfl, by kernel_rfl, by kernel_rfl⟩
theorem run_room_ps (g p s : Nat) (hp : p < s) (hs : s ≤ 32768) (W : World) : (Instr.sliceAt 92 (.pointer (some ⟨g, 0, none⟩)) (some (.int .i64 p)) (some (.int .i64 s)) none).run Try.prog W = .ok (.slice (some ⟨g, p, none⟩) (s - p) (32768 - p)) W := by
  obtain ⟨i0, hi, hz0, hz1, hz2⟩ := info_parts Try.info_u8
  obtain ⟨a1, a2, a3⟩ := Try.arr_room
  rw [run_sliceAt_array_lh (P := Try.prog) W _ _ a1 _ _ _ _ (by omega) (by omega) (by rw [a2]; omega), a2, a3]
  have hne : ¬ 32768 = p := by omega
  simp [sizeOf, typeInfo, hi, hz1, slicedAt, Addr.add_lit, hne]
theorem run_room_p (g p : Nat) (hp : p ≤ 32768) (W : World) : (Instr.sliceAt 92 (.pointer (some ⟨g, 0, none⟩)) none (some (.int .i64 p)) none).run Try.prog W = .ok (.slice (some ⟨g, 0, none⟩) p 32768) W := by
  obtain ⟨i0, hi, hz0, hz1, hz2⟩ := info_parts Try.info_u8
  obtain ⟨a1, a2, a3⟩ := Try.arr_room
  rw [run_sliceAt_array_h (P := Try.prog) W _ _ a1 _ _ (by omega) (by rw [a2]; omega), a2, a3]
  simp [sizeOf, typeInfo, hi, hz1, slicedAt, Addr.add_lit]
theorem run_room_all (g : Nat) (W : World) : (Instr.sliceAt 92 (.pointer (some ⟨g, 0, none⟩)) none none none).run Try.prog W = .ok (.slice (some ⟨g, 0, none⟩) 32768 32768) W := by
  obtain ⟨i0, hi, hz0, hz1, hz2⟩ := info_parts Try.info_u8
  obtain ⟨a1, a2, a3⟩ := Try.arr_room
  rw [run_sliceAt_array_all (P := Try.prog) W _ _ a1, a2, a3]
  simp [sizeOf, typeInfo, hi, hz1, slicedAt, Addr.add_lit]
set_option maxRecDepth 100000 in
set_option maxHeartbeats 3200000 in
theorem rput_any (g : Nat) (rs : List Int) (s p c : Nat) (t d : List Int) (ao : Option Addr) (cap : Nat) (w : World) (h : RingAt w g rs s p c) (hI : RingIs rs s p c t) (hs : s ≤ 32768) (hr : Row w ao d) (hf : d.length ≤ cap) (hcap : cap ≤ maxLen) (hb : ∀ ad, ao = some ad → ad.block < g) :
    Calls Try.prog 50 #[.pointer (some ⟨g, 0, none⟩), .slice ao d.length cap] w fun e w' => e = .returned (.tuple #[]) ∧ (∃ rs' p' c', RingAt w' g rs' s (p' : Nat) (c' : Nat) ∧ RingIs rs' s p' c' (lastN s (t ++ d))) ∧ Below g w w' := by
  obtain ⟨c0, c1, c2, fz⟩ := h.three
  have HR := hide1 hr
  have HI := hide1 hI
  have HH := hide1 h
  have hp := hI.place
  have hs0 := hI.pos
  have hglt := h.lt
  unfold maxLen at hcap
  clear hr h hI fz
  go_enter Try.func50, Try.ntmps50
  go_upto_region 0 with fail
  go_cut [1] from 5 to 14 (fun v wx => ∃ ao' cap', v = .slice ao' (lastN s d).length cap' ∧ Row wx ao' (lastN s d) ∧ wx = w ∧ (lastN s d).length ≤ cap' ∧ cap' ≤ 9223372036854775807 ∧ ∀ ad, ao' = some ad → ad.block < g)
  case first =>
    go_wp2_with fail
    · have e : lastN s d = d := lastN_all (by omega)
      go_meet
      exact ⟨ao, 0, by rw [e], by rw [e]; exact HR.out, rfl, by rw [e]; omega, by omega, hb⟩
    · have e : lastN s d = d.drop (d.length - s) := rfl
      have el : (lastN s d).length = d.length - (d.length - s) := by rw [e, List.length_drop]
      go_meet
      refine ⟨_, _, by rw [el], HR.out.last (by omega), rfl, by omega, by omega, ?_⟩
      intro ad ea
      cases ao with
      | none => cases ea
      | some x =>
        simp only [Option.map_some, Option.some.injEq] at ea
        subst ea
        have := hb x rfl
        unfold Addr.add
        split <;> exact this
    · have e : lastN s d = d := lastN_all (by omega)
      go_meet
      exact ⟨ao, cap, by rw [e], by rw [e]; exact HR.out, rfl, by rw [e]; omega, by omega, hb⟩
  case rest =>
    obtain ⟨ao', cap', rfl, hrow, hw, hf', hc', hb'⟩ := hcut
    have hw' := hw.symm
    subst hw'
    clear hb HR hf hcap
    have hDl : (lastN s d).length ≤ s := by rw [lastN_len]; omega
    have HT := hide1 (lastN_app s t d)
    generalize hD : lastN s d = D at *
    have HDD := hide1 hD
    clear hD
    have HR := hide1 hrow
    clear hrow
    obtain ⟨X1, hX1⟩ : ∃ X1, X1 = (D.take (s - p)).map (Value.int .u8) := ⟨_, rfl⟩
    obtain ⟨k, hk⟩ : ∃ k, k = min (s - p) D.length := ⟨_, rfl⟩
    have hX1l : X1.length = k := by rw [hX1, hk]; simp
    have hk1 : k ≤ s - p := by omega
    have hkD : k ≤ D.length := by omega
    have hkd : D.drop k = D.drop (s - p) := by
      rw [hk]
      rcases Nat.le_total (s - p) D.length with h | h
      · rw [Nat.min_eq_left h]
      · rw [Nat.min_eq_right h, List.drop_eq_nil_of_le (Nat.le_refl _), List.drop_eq_nil_of_le h]
    have HKD := hide1 hkd
    have HK := hide1 hk
    clear hkd hk
    have HX1 := hide1 hX1
    clear hX1
    have hsl := run_room_ps g p s hp hs w.drew
    have P1 : Hid (0 < X1.length → some (⟨g, p, none⟩ : Addr) = some ⟨g, p, none⟩ ∧ ∃ ad, ao' = some ad ∧ ∀ j v, X1[j]? = some v → w.drew.cell? (ad.add j) = some v) := by
      intro h0
      refine ⟨rfl, ?_⟩
      rw [HX1.out] at h0 ⊢
      exact (HR.out.take (s - p)).first (by simpa using h0)
    have P2 : Hid (p + X1.length ≤ (rs.map (Value.int .u8) ++ [Value.int .i64 s, Value.int .i64 p, Value.int .i64 c]).length) := by
      show _ ≤ _
      rw [List.length_append, List.length_map, HH.out.len]; simp; omega
    have P3 : Hid (∀ v ∈ X1, v.oneCell' = true) := by
      show ∀ v ∈ X1, v.oneCell' = true
      rw [HX1.out]; exact ints_oneCell _ _
    go_upto_region 1 with fail
    go_cut [4] from 15 to 28 (fun v wx => v = .int .i64 (k : Nat) ∧ RingAt wx g (splice rs p (D.take (s - p))) s p c ∧ Below g w wx)
    case first =>
      go_region_law (refine step_copy_splice rfl (.tmp 26) (.tmp 27) 22 22 rfl 5 Try.underlying22 Try.size_u8 (some ⟨g, p, none⟩) ao' (s - p) (32768 - p) D.length cap' (by simp [Act.eval]) (by simp [Act.eval]) g p _ 94 HH.out.heap X1 (by rw [hX1l]; exact HK.out.trans (Nat.min_comm _ _)) P1.out P2.out P3.out g w (Below.refl _ _).drew (Nat.le_refl _) ?_; intro w4 hg4 hb4)
      all_goals
        have h4 : RingAt w4 g (splice rs p (D.take (s - p))) s p c := ring_splice HH.out (by simp; omega) (by have e := hg4.out; rw [HX1.out] at e; exact e)
        go_wp2_with fail
        go_meet
        exact ⟨rfl, h4, hb4⟩
    case rest =>
    obtain ⟨rfl, h4, hb4⟩ := hcut
    obtain ⟨w4, hw4⟩ : ∃ x, x = wc := ⟨_, rfl⟩
    subst hw4
    have HH4 := hide1 h4
    clear hsl P1 P2 P3 c0 c1 c2 HX1 hX1l h4 HH
    have hI4 := hide1 (HI.out.copies hDl)
    have HR4 := hide1 (Row.under HR.out hb4 hb')
    obtain ⟨ao2, hE, hsl2, hrow2⟩ := run_cut ao' D cap' k hkD hf'
    have hs2 := hsl2 w4.drew
    have hsl := run_room_all g w4.drew
    obtain ⟨X2, hX2⟩ : ∃ X2, X2 = (D.drop (s - p)).map (Value.int .u8) := ⟨_, rfl⟩
    have hX2l : X2.length = D.length - k := by rw [hX2, List.length_map, ← HKD.out, List.length_drop]
    have HX2 := hide1 hX2
    have HRW := hide1 (hrow2 w4 HR4.out)
    clear hX2 hsl2 hrow2
    have P1 : Hid (0 < X2.length → some (⟨g, 0, none⟩ : Addr) = some ⟨g, 0, none⟩ ∧ ∃ ad, ao2 = some ad ∧ ∀ j v, X2[j]? = some v → w4.drew.cell? (ad.add j) = some v) := by
      intro h0
      refine ⟨rfl, ?_⟩
      rw [HX2.out, ← HKD.out] at h0 ⊢
      exact HRW.out.first (by simpa using h0)
    have P2 : Hid (0 + X2.length ≤ ((splice rs p (D.take (s - p))).map (Value.int .u8) ++ [Value.int .i64 s, Value.int .i64 p, Value.int .i64 c]).length) := by
      show _ ≤ _
      rw [List.length_append, List.length_map, HH4.out.len, hX2l]; simp; omega
    have P3 : Hid (∀ v ∈ X2, v.oneCell' = true) := by
      show ∀ v ∈ X2, v.oneCell' = true
      rw [HX2.out]; exact ints_oneCell _ _
    go_upto_region 2 with fail
    go_cut [4] from 29 to 36 (fun v wx => v = .int .i64 (k : Nat) ∧ RingAt wx g (splice (splice rs p (D.take (s - p))) 0 (D.drop (s - p))) s p c ∧ Below g w wx)
    case first =>
      go_region_law (refine step_copy_splice rfl (.tmp 32) (.tmp 35) 22 22 rfl 5 Try.underlying22 Try.size_u8 (some ⟨g, 0, none⟩) ao2 32768 32768 (D.length - k) (cap' - k) (by simp [Act.eval, Act.put]) (by simp [Act.eval, Act.put]) g 0 _ 94 HH4.out.heap X2 (by rw [hX2l]; exact (Nat.min_eq_left (by omega)).symm) P1.out P2.out P3.out g w hb4.drew (Nat.le_refl _) ?_; intro w5 hg5 hb5)
      all_goals
        have h5 : RingAt w5 g (splice (splice rs p (D.take (s - p))) 0 (D.drop (s - p))) s p c := ring_splice HH4.out (by simp; omega) (by have e := hg5.out; rw [HX2.out] at e; exact e)
        go_wp2_with fail
        go_meet
        exact ⟨rfl, h5, hb5⟩
    case rest =>
    obtain ⟨rfl, h5, hb5⟩ := hcut
    have hcs := HI.out.most
    have HM := hide1 (moveOn_any g _ s p c D.length wc h5 hs0 hs hp hcs hDl)
    clear h5 hsl hs2 P1 P2 P3 HX2 hX2l hE
    go_wp2_with fail
    refine Calls.mono HM.out ?_
    rintro e w6 ⟨rfl, h6, hg6, hz6⟩
    go_wp2_with fail
    go_end0
    refine ⟨rfl, ⟨_, _, _, h6, ?_⟩, ?_⟩
    · rw [← HT.out]
      exact hI4.out
    · exact hb5.trans ⟨hg6.os, hg6.tape, hg6.output, hg6.size, fun k hk => hg6.block k (by have := hb5.size; omega) (by simp; omega)⟩

end Go.Proofs.Ytjknaigdlkpiaaa
