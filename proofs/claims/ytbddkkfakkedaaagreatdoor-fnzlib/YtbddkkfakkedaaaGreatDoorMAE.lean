import Derived.Laws.CopyOwn
import Derived.Deep.RegionWith
import Derived.Deep.CutRange
import Derived.Laws.Tables
import Derived.Test.YtbddkkfakkedaaaGreatDoorMAB
/-
  A RING: what lies in it and what it tells. No program.
-/
namespace Go.Proofs.YtbddkkfakkedaaaGreatDoor

/-- The last n. -/
def lastN (n : Nat) (zs : List Int) : List Int := zs.drop (zs.length - n)
theorem lastN_len (n : Nat) (zs : List Int) : (lastN n zs).length = min zs.length n := by simp [lastN]; omega
theorem lastN_all {n : Nat} {zs : List Int} (h : zs.length ≤ n) : lastN n zs = zs := by simp [lastN, Nat.sub_eq_zero_of_le h]
theorem getD_drop (zs : List Int) (k i : Nat) : (zs.drop k).getD i 0 = zs.getD (k + i) 0 := by simp [List.getD]
theorem lastN_getD (n : Nat) (zs : List Int) (i : Nat) : (lastN n zs).getD i 0 = zs.getD (zs.length - n + i) 0 := getD_drop _ _ _
theorem getD_app (a b : List Int) (i : Nat) : (a ++ b).getD i 0 = if i < a.length then a.getD i 0 else b.getD (i - a.length) 0 := by
  split
  · rename_i h; simp [List.getD, List.getElem?_append_left h]
  · rename_i h; simp [List.getD, List.getElem?_append_right (Nat.le_of_not_lt h)]
theorem ext_getD {a b : List Int} (hl : a.length = b.length) (h : ∀ i, i < a.length → a.getD i 0 = b.getD i 0) : a = b := by
  apply List.ext_getElem hl
  intro j h1 h2
  have := h j h1
  simpa [List.getD, h1, h2] using this
theorem lastN_lastN (n : Nat) (a b : List Int) : lastN n (lastN n a ++ b) = lastN n (a ++ b) := by
  refine ext_getD (by simp [lastN_len]; omega) ?_
  intro i hi
  simp only [lastN_len, List.length_append] at hi
  rw [lastN_getD, lastN_getD, getD_app, getD_app, lastN_getD]
  simp only [lastN_len, List.length_append]
  split <;> split <;> first | omega | (congr 1; omega)

/-- Round the ring's end. -/
def wr (s x : Nat) : Nat := if x < s then x else x - s
theorem wr_mod {s x : Nat} (h : x < 2 * s) : x % s = wr s x := by
  unfold wr
  split
  · exact Nat.mod_eq_of_lt (by assumption)
  · rw [Nat.mod_eq_sub_mod (by omega), Nat.mod_eq_of_lt (by omega)]

structure RingIs (rs : List Int) (s p c : Nat) (t : List Int) : Prop where
  pos : 0 < s
  room : s ≤ rs.length
  place : p < s
  len : t.length = c
  most : c ≤ s
  young : c < s → p = c
  at_ : ∀ i, i < c → t.getD i 0 = rs.getD (wr s (p + s - c + i)) 0

theorem RingIs.new (rs : List Int) (s : Nat) (h0 : 0 < s) (h : s ≤ rs.length) : RingIs rs s 0 0 [] :=
  ⟨h0, h, h0, rfl, Nat.zero_le _, fun _ => rfl, fun i hi => absurd hi (by omega)⟩

theorem RingIs.put {rs rs' : List Int} {s p c : Nat} {t d : List Int} (h : RingIs rs s p c t) (hm : d.length ≤ s) (hl : s ≤ rs'.length)
    (hr : ∀ j, j < s → rs'.getD j 0 = if wr s (j + s - p) < d.length then d.getD (wr s (j + s - p)) 0 else rs.getD j 0) :
    RingIs rs' s (wr s (p + d.length)) (min (c + d.length) s) (lastN s (t ++ d)) := by
  obtain ⟨h1, h2, h3, h4, h5, h6, h7⟩ := h
  refine ⟨h1, hl, ?_, ?_, by omega, ?_, ?_⟩
  · unfold wr; split <;> omega
  · rw [lastN_len, List.length_append, h4]
  · intro hc
    have := h6 (by omega)
    unfold wr; split <;> omega
  · intro i hi
    rw [lastN_getD, getD_app, List.length_append, h4]
    have hj : wr s (wr s (p + d.length) + s - min (c + d.length) s + i) < s := by
      unfold wr; repeat' split
      all_goals omega
    rw [hr _ hj]
    have hx : wr s (wr s (wr s (p + d.length) + s - min (c + d.length) s + i) + s - p) = if c + d.length - s + i < c then (c + d.length - s + i) + s - c else c + d.length - s + i - c := by
      by_cases hcs : c < s
      · have := h6 hcs
        unfold wr; repeat' split
        all_goals omega
      · unfold wr; repeat' split
        all_goals omega
    rw [hx]
    by_cases hk : c + d.length - s + i < c
    · rw [if_pos hk, if_pos hk, if_neg (by omega), h7 _ hk]
      congr 1
      by_cases hcs : c < s
      · have := h6 hcs
        unfold wr; repeat' split
        all_goals omega
      · unfold wr; repeat' split
        all_goals omega
    · rw [if_neg hk, if_neg hk, if_pos (by omega)]

theorem RingIs.one {rs : List Int} {s p c : Nat} {t : List Int} (h : RingIs rs s p c t) (x : Int) : RingIs (rs.set p x) s (wr s (p + 1)) (min (c + 1) s) (lastN s (t ++ [x])) := by
  have h3 := h.place
  have h2 := h.room
  refine h.put (d := [x]) (by have := h.pos; simp; omega) (by simpa using h2) ?_
  intro j hj
  by_cases e : j = p
  · subst e
    have : wr s (j + s - j) = 0 := by unfold wr; split <;> omega
    rw [this]
    have : j < rs.length := by omega
    simp [List.getD, this]
  · have : ¬ wr s (j + s - p) < 1 := by unfold wr; split <;> omega
    have e' : ¬ p = j := fun h => e h.symm
    simp [List.getD, this, e']

/-- The byte dist places before the end. -/
theorem RingIs.back {rs : List Int} {s p c : Nat} {t : List Int} (h : RingIs rs s p c t) {dist : Nat} (h0 : 1 ≤ dist) (h1 : dist ≤ c) : rs.getD (wr s (p + s - dist)) 0 = t.getD (c - dist) 0 := by
  have := h.most
  rw [h.at_ _ (by omega)]
  congr 2
  omega

theorem RingIs.tell_young {rs : List Int} {s p c : Nat} {t : List Int} (h : RingIs rs s p c t) (hc : c < s) : rs.take p = t := by
  obtain ⟨h1, h2, h3, h4, h5, h6, h7⟩ := h
  have hp := h6 hc
  subst hp
  refine ext_getD (by simp; omega) ?_
  intro i hi
  simp at hi
  rw [h7 i (by omega)]
  have : wr s (p + s - p + i) = i := by unfold wr; split <;> omega
  rw [this]
  simp [List.getD, (by omega : i < p)]
theorem RingIs.tell_full {rs : List Int} {s p c : Nat} {t : List Int} (h : RingIs rs s p c t) (hc : ¬ c < s) : (rs.drop p).take (s - p) ++ rs.take p = t := by
  obtain ⟨h1, h2, h3, h4, h5, h6, h7⟩ := h
  refine ext_getD (by simp; omega) ?_
  intro i hi
  simp at hi
  rw [h7 i (by omega), getD_app]
  simp only [List.length_take, List.length_drop]
  split
  · rw [show wr s (p + s - c + i) = p + i by unfold wr; split <;> omega]
    simp [List.getD, (by omega : i < s - p)]
  · rw [show wr s (p + s - c + i) = i - (s - p) by unfold wr; split <;> omega, show min (s - p) (rs.length - p) = s - p by omega]
    simp [List.getD, (by omega : i - (s - p) < p)]

theorem splice_getD (L : List Int) (o : Nat) (cs : List Int) (h : o + cs.length ≤ L.length) (j : Nat) : (splice L o cs).getD j 0 = if o ≤ j ∧ j < o + cs.length then cs.getD (j - o) 0 else L.getD j 0 := by
  unfold splice
  rw [getD_app, getD_app]
  simp only [List.length_take]
  by_cases h1 : j < o
  · rw [if_pos (by omega), if_neg (by omega)]
    simp [List.getD, h1]
  · rw [if_neg (by omega)]
    by_cases h2 : j < o + cs.length
    · rw [if_pos (by omega), if_pos ⟨by omega, h2⟩]
      congr 1; omega
    · rw [if_neg (by omega), if_neg (by omega), getD_drop]
      congr 1; omega

/-- Two copies: up to the ring's end, and from its head on. -/
theorem RingIs.copies {rs : List Int} {s p c : Nat} {t d : List Int} (h : RingIs rs s p c t) (hm : d.length ≤ s) :
    RingIs (splice (splice rs p (d.take (s - p))) 0 (d.drop (s - p))) s (wr s (p + d.length)) (min (c + d.length) s) (lastN s (t ++ d)) := by
  have h2 := h.room
  have h3 := h.place
  have l1 : p + (d.take (s - p)).length ≤ rs.length := by simp; omega
  have e1 := length_splice rs p (d.take (s - p)) l1
  have l2 : 0 + (d.drop (s - p)).length ≤ (splice rs p (d.take (s - p))).length := by rw [e1]; simp; omega
  refine h.put hm (by rw [length_splice _ _ _ l2, e1]; exact h2) ?_
  intro j hj
  rw [splice_getD _ _ _ l2, splice_getD _ _ _ l1]
  simp only [List.length_take, List.length_drop]
  by_cases a : j < d.length - (s - p)
  · rw [if_pos ⟨Nat.zero_le _, by omega⟩, if_pos (by unfold wr; split <;> omega), getD_drop]
    congr 1
    unfold wr; split <;> omega
  · rw [if_neg (by omega)]
    by_cases b : p ≤ j ∧ j < p + min (s - p) d.length
    · rw [if_pos b, if_pos (by unfold wr; split <;> omega)]
      have e : wr s (j + s - p) = j - p := by unfold wr; split <;> omega
      rw [e]
      simp [List.getD, (by omega : j - p < s - p)]
    · rw [if_neg b, if_neg (by unfold wr; split <;> omega)]

/-- What has been told after n copies from dist places before. -/
def copyN (all : List Int) (dist : Nat) : Nat → List Int
  | 0 => all
  | n + 1 => copyN all dist n ++ [(copyN all dist n).getD ((copyN all dist n).length - dist) 0]
theorem copyN_len (all : List Int) (dist n : Nat) : (copyN all dist n).length = all.length + n := by
  induction n with
  | zero => rfl
  | succ n ih => simp [copyN, ih]; omega
theorem copyN_pre (all : List Int) (dist n : Nat) : (copyN all dist n).take all.length = all := by
  induction n with
  | zero => simp [copyN]
  | succ n ih =>
    rw [copyN, List.take_append_of_le_length (by rw [copyN_len]; omega), ih]
/-- The copied bytes. -/
def dataN (all : List Int) (dist n : Nat) : List Int := (copyN all dist n).drop all.length
theorem dataN_len (all : List Int) (dist n : Nat) : (dataN all dist n).length = n := by simp [dataN, copyN_len]
theorem dataN_succ (all : List Int) (dist n : Nat) : dataN all dist (n + 1) = dataN all dist n ++ [(copyN all dist n).getD ((copyN all dist n).length - dist) 0] := by
  unfold dataN
  rw [copyN, List.drop_append_of_le_length (by rw [copyN_len]; omega)]
theorem last_back (s : Nat) (a : List Int) (dist : Nat) (h1 : dist ≤ s) (h2 : dist ≤ a.length) : (lastN s a).getD ((lastN s a).length - dist) 0 = a.getD (a.length - dist) 0 := by
  rw [lastN_getD, lastN_len]
  congr 1
  omega
end Go.Proofs.YtbddkkfakkedaaaGreatDoor
namespace Go.Proofs.YtbddkkfakkedaaaGreatDoor
open Go.RowKit
attribute [local go_sem ↓] Go.wp_at_zero Go.wp_at_succ
set_option linter.unusedVariables false

theorem app3_0 (L : List Value) (a b c : Value) (n : Nat) (h : L.length = n) : (L ++ [a, b, c])[n]? = some a := by subst h; simp
theorem app3_1 (L : List Value) (a b c : Value) (n : Nat) (h : L.length = n) : (L ++ [a, b, c])[n + 1]? = some b := by subst h; simp
theorem app3_2 (L : List Value) (a b c : Value) (n : Nat) (h : L.length = n) : (L ++ [a, b, c])[n + 2]? = some c := by subst h; simp
theorem app3_set1 (L : List Value) (a b c d : Value) (n : Nat) (h : L.length = n) : (L ++ [a, b, c]).set (n + 1) d = L ++ [a, d, c] := by subst h; rw [List.set_append_right _ _ (by omega)]; simp
theorem app3_set2 (L : List Value) (a b c d : Value) (n : Nat) (h : L.length = n) : (L ++ [a, b, c]).set (n + 2) d = L ++ [a, b, d] := by subst h; rw [List.set_append_right _ _ (by omega)]; simp

/-- A ring in memory. -/
structure RingAt (w : World) (g : Nat) (rs : List Int) (s p c : Int) : Prop where
  heap : w.heap[g]? = some (.cells (rs.map (Value.int .u8) ++ [Value.int .i64 s, Value.int .i64 p, Value.int .i64 c]).toArray 225 (0, 0))
  len : rs.length = 32768

theorem cell_of_heap {w : World} {g off : Nat} {L : List Value} {t : TypeId} {v : Value} (h : w.heap[g]? = some (.cells L.toArray t (0, 0))) (hv : L[off]? = some v) : w.cell? ⟨g, off, none⟩ = some v := by
  simp [World.cell?, h, hv]
theorem frozen_of_heap {w : World} {g off : Nat} {L : List Value} {t : TypeId} (h : w.heap[g]? = some (.cells L.toArray t (0, 0))) : w.frozen? ⟨g, off, none⟩ = false := by
  simp [World.frozen?, h]
theorem heap_set {w : World} {g off : Nat} {L : List Value} {t : TypeId} (v : Value) (h : w.heap[g]? = some (.cells L.toArray t (0, 0))) : (w.setCell ⟨g, off, none⟩ v).heap[g]? = some (.cells (L.set off v).toArray t (0, 0)) := by
  rw [setCell_eq_setRow w g off L.toArray t (0, 0) v h, setRow_heap w g _ _ t _ h]
  simp

theorem RingAt.lt {w : World} {g : Nat} {rs : List Int} {s p c : Int} (h : RingAt w g rs s p c) : g < w.heap.size := (Array.getElem?_eq_some_iff.1 h.heap).1
theorem RingAt.three {w : World} {g : Nat} {rs : List Int} {s p c : Int} (h : RingAt w g rs s p c) :
    w.cell? ⟨g, 32768, none⟩ = some (.int .i64 s) ∧ w.cell? ⟨g, 32769, none⟩ = some (.int .i64 p) ∧ w.cell? ⟨g, 32770, none⟩ = some (.int .i64 c) ∧ ∀ off, w.frozen? ⟨g, off, none⟩ = false := by
  have hl : (rs.map (Value.int .u8)).length = 32768 := by rw [List.length_map, h.len]
  exact ⟨cell_of_heap h.heap (app3_0 _ _ _ _ _ hl), cell_of_heap h.heap (app3_1 _ _ _ _ _ hl), cell_of_heap h.heap (app3_2 _ _ _ _ _ hl), fun off => frozen_of_heap h.heap⟩
theorem RingAt.byte {w : World} {g : Nat} {rs : List Int} {s p c : Int} (h : RingAt w g rs s p c) {i : Nat} (hi : i < rs.length) : w.cell? ⟨g, i, none⟩ = some (.int .u8 (rs.getD i 0)) := by
  refine cell_of_heap h.heap ?_
  rw [List.getElem?_append_left (by simpa using hi)]
  simp [List.getD, hi]
theorem RingAt.setByte {w : World} {g : Nat} {rs : List Int} {s p c : Int} (h : RingAt w g rs s p c) {i : Nat} (hi : i < rs.length) (x : Int) : RingAt (w.setCell ⟨g, i, none⟩ (.int .u8 x)) g (rs.set i x) s p c := by
  refine ⟨?_, by rw [List.length_set]; exact h.len⟩
  rw [heap_set _ h.heap, List.set_append_left _ _ (by simpa using hi), List.map_set]
theorem RingAt.setP {w : World} {g : Nat} {rs : List Int} {s p c : Int} (h : RingAt w g rs s p c) (x : Int) : RingAt (w.setCell ⟨g, 32769, none⟩ (.int .i64 x)) g rs s x c := by
  have hl : (rs.map (Value.int .u8)).length = 32768 := by rw [List.length_map, h.len]
  refine ⟨?_, h.len⟩
  rw [heap_set _ h.heap, app3_set1 _ _ _ _ _ 32768 hl]
theorem RingAt.setC {w : World} {g : Nat} {rs : List Int} {s p c : Int} (h : RingAt w g rs s p c) (x : Int) : RingAt (w.setCell ⟨g, 32770, none⟩ (.int .i64 x)) g rs s p x := by
  have hl : (rs.map (Value.int .u8)).length = 32768 := by rw [List.length_map, h.len]
  refine ⟨?_, h.len⟩
  rw [heap_set _ h.heap, app3_set2 _ _ _ _ _ 32768 hl]
theorem RingAt.grown {w w' : World} {row : Option Nat} {g : Nat} {rs : List Int} {s p c : Int} (h : RingAt w g rs s p c) (hg : w.grownBy w' row) (hne : some g ≠ row) : RingAt w' g rs s p c :=
  ⟨(hg.block g h.lt hne).trans h.heap, h.len⟩
theorem RingAt.below {w w' : World} {g : Nat} {rs : List Int} {s p c : Int} (h : RingAt w g rs s p c) (hb : Below w.heap.size w w') : RingAt w' g rs s p c := h.grown (grownBy_of_below hb none) (by simp)
theorem RingAt.drewN {w : World} {g : Nat} {rs : List Int} {s p c : Int} (h : RingAt w g rs s p c) (k : Nat) : RingAt (w.drewN k) g rs s p c := ⟨h.heap, h.len⟩

theorem ring_grown (w : World) (g : Nat) (x y : Value) : w.grownBy ((w.setCell ⟨g, 32769, none⟩ x).setCell ⟨g, 32770, none⟩ y).drew.drew (some g) := by
  have h := grownBy_trans (grownBy_setCell w ⟨g, 32769, none⟩ x) (grownBy_setCell _ ⟨g, 32770, none⟩ y)
  exact ⟨h.os, h.tape, h.output, h.size, h.block⟩

set_option maxHeartbeats 3200000 in
/-- moveOn. -/
theorem moveOn_any (g : Nat) (rs : List Int) (s p c m : Nat) (w : World) (h : RingAt w g rs s p c) (hs0 : 0 < s) (hs : s ≤ 32768) (hp : p < s) (hc : c ≤ s) (hm : m ≤ s) :
    Calls Tryz.prog 172 #[.pointer (some ⟨g, 0, none⟩), .int .i64 m] w fun e w' => e = .returned (.tuple #[]) ∧ RingAt w' g rs s (wr s (p + m) : Nat) (min (c + m) s : Nat) ∧ w.grownBy w' (some g) ∧ w'.heap.size = w.heap.size := by
  obtain ⟨c0, c1, c2, fz⟩ := h.three
  have f1 := fz 32769
  have f2 := fz 32770
  have hq : ((p : Int) + (m : Int)).tmod (s : Int) = ((wr s (p + m) : Nat) : Int) := by
    rw [← wr_mod (by omega), ← Int.natCast_add, ← Int.ofNat_tmod]
  have R1 := hide1 (h.setP ((wr s (p + m) : Nat) : Int))
  have R2 := hide1 ((h.setP ((wr s (p + m) : Nat) : Int)).setC ((min (c + m) s : Nat) : Int))
  go_enter Tryz.func172, Tryz.ntmps172
  clear fz
  go_wp2
  go_region
  go_wp2
  go_region
  go_wp2
  · go_end0
    refine ⟨rfl, ?_, ?_, by simp⟩
    · have hR := R2.out
      rw [Nat.min_eq_right (by omega)] at hR ⊢
      exact (hR.drewN 1).drewN 1
    · exact ring_grown _ _ _ _
  · go_end0
    refine ⟨rfl, ?_, ?_, by simp⟩
    · have hR := R2.out
      rw [Nat.min_eq_left (by omega), Int.natCast_add] at hR
      rw [Nat.min_eq_left (by omega), Int.natCast_add]
      exact (hR.drewN 1).drewN 1
    · exact ring_grown _ _ _ _

theorem lastN_app (n : Nat) (a b : List Int) : lastN n (a ++ lastN n b) = lastN n (a ++ b) := by
  refine ext_getD (by simp [lastN_len]; omega) ?_
  intro i hi
  simp only [lastN_len, List.length_append] at hi
  rw [lastN_getD, lastN_getD, getD_app, getD_app, lastN_getD]
  simp only [lastN_len, List.length_append]
  split <;> split <;> first | omega | (congr 1; omega)
theorem Row.last {w : World} {ao : Option Addr} {zs : List Int} (h : Row w ao zs) {k : Nat} (hk : 0 < k) : Row w (ao.map (·.add k)) (zs.drop k) := by
  intro i hi
  rw [List.length_drop] at hi
  obtain ⟨b, off, rfl, hc⟩ := h (k + i) (by omega)
  refine ⟨b, off + k, by simp [Addr.add_lit], ?_⟩
  rw [Nat.add_assoc, hc]
  simp [List.getD]

theorem Tryz.size_u8 : (Tryz.prog.info? 5).map (·.size) = some 1 := by kernel_rfl
theorem Row.take {w : World} {ao : Option Addr} {zs : List Int} (h : Row w ao zs) (k : Nat) : Row w ao (zs.take k) := by
  intro i hi
  simp only [List.length_take] at hi
  obtain ⟨b, off, e, hc⟩ := h i (by omega)
  refine ⟨b, off, e, ?_⟩
  rw [hc]
  simp [List.getD, (by omega : i < k)]
theorem Row.first {w : World} {ao : Option Addr} {zs : List Int} (h : Row w ao zs) (h0 : 0 < zs.length) : ∃ ad, ao = some ad ∧ ∀ j v, (zs.map (Value.int .u8))[j]? = some v → w.cell? (ad.add j) = some v := by
  obtain ⟨b, off, rfl, _⟩ := h 0 h0
  exact ⟨_, rfl, h.news⟩
theorem Row.under {w w' : World} {g : Nat} {ao : Option Addr} {zs : List Int} (h : Row w ao zs) (hb : Below g w w') (hl : ∀ ad, ao = some ad → ad.block < g) : Row w' ao zs := by
  intro i hi
  obtain ⟨b, off, rfl, hc⟩ := h i hi
  exact ⟨b, off, rfl, by rw [hb.cell (p := ⟨b, off + i, none⟩) (hl ⟨b, off, none⟩ rfl)]; exact hc⟩
theorem splice_map (rs d : List Int) (T : List Value) (p : Nat) (h : p + d.length ≤ rs.length) : splice (rs.map (Value.int .u8) ++ T) p (d.map (Value.int .u8)) = (splice rs p d).map (Value.int .u8) ++ T := by
  unfold splice
  rw [List.take_append_of_le_length (by rw [List.length_map]; omega), List.length_map, List.drop_append_of_le_length (by rw [List.length_map]; omega)]
  simp [List.map_take, List.map_drop]
theorem ring_splice {w w' : World} {g : Nat} {rs d : List Int} {s p c : Int} {o : Nat} (h : RingAt w g rs s p c) (hf : o + d.length ≤ 32768) (hh : w'.heap[g]? = some (.cells (splice (rs.map (Value.int .u8) ++ [Value.int .i64 s, Value.int .i64 p, Value.int .i64 c]) o (d.map (Value.int .u8))).toArray 225 (0, 0))) : RingAt w' g (splice rs o d) s p c := by
  have hl := h.len
  rw [splice_map _ _ _ _ (by omega)] at hh
  exact ⟨hh, by rw [length_splice _ _ _ (by omega)]; exact hl⟩
theorem run_cut (ao : Option Addr) (D : List Int) (cap k : Nat) (hk : k ≤ D.length) (hf : D.length ≤ cap) :
    ∃ ao2, (if cap = k then ao else ao.map (fun x => x.add k)) = ao2 ∧ (∀ W : World, (Instr.slice 22 (.slice ao D.length cap) (some (.int .i64 k)) none none).run Tryz.prog W = .ok (.slice ao2 (D.length - k) (cap - k)) W) ∧ ∀ w : World, Row w ao D → Row w ao2 (D.drop k) := by
  obtain ⟨i0, hi, hz0, hz1, hz2⟩ := info_parts Tryz.info_u8
  refine ⟨if cap = k then ao else ao.map (·.add k), rfl, ?_, ?_⟩
  · intro W
    have hel : Tryz.prog.elem 22 = 5 := by kernel_rfl
    rw [run_slice_any (P := Tryz.prog) W _ _ _ _ (by kernel_rfl), hel]
    simp [Instr.sliceBounds, run_sliceBound, sizeOf, typeInfo, hi, hz1, sliced, hk]
  · intro w hr
    split
    · rename_i e
      intro i hi
      rw [List.length_drop] at hi
      omega
    · rcases Nat.eq_zero_or_pos k with rfl | h0
      · intro i hi
        simp only [List.drop_zero] at hi ⊢
        obtain ⟨b, off, rfl, hc⟩ := hr i hi
        exact ⟨b, off, by simp [Addr.add_lit], hc⟩
      · exact hr.last h0
theorem Tryz.arr_room : Tryz.prog.underlying 223 = some (.array (Tryz.prog.arrayLen 223) (Tryz.prog.elem 223)) ∧ Tryz.prog.arrayLen 223 = 32768 ∧ Tryz.prog.elem 223 = 5 := ⟨by kernel_rfl, by kernel_rfl, by kernel_rfl⟩
theorem run_room_ps (g p s : Nat) (hp : p < s) (hs : s ≤ 32768) (W : World) : (Instr.sliceAt 223 (.pointer (some ⟨g, 0, none⟩)) (some (.int .i64 p)) (some (.int .i64 s)) none).run Tryz.prog W = .ok (.slice (some ⟨g, p, none⟩) (s - p) (32768 - p)) W := by
  obtain ⟨i0, hi, hz0, hz1, hz2⟩ := info_parts Tryz.info_u8
  obtain ⟨a1, a2, a3⟩ := Tryz.arr_room
  rw [run_sliceAt_array_lh (P := Tryz.prog) W _ _ a1 _ _ _ _ (by omega) (by omega) (by rw [a2]; omega), a2, a3]
  have hne : ¬ 32768 = p := by omega
  simp [sizeOf, typeInfo, hi, hz1, slicedAt, Addr.add_lit, hne]
theorem run_room_p (g p : Nat) (hp : p ≤ 32768) (W : World) : (Instr.sliceAt 223 (.pointer (some ⟨g, 0, none⟩)) none (some (.int .i64 p)) none).run Tryz.prog W = .ok (.slice (some ⟨g, 0, none⟩) p 32768) W := by
  obtain ⟨i0, hi, hz0, hz1, hz2⟩ := info_parts Tryz.info_u8
  obtain ⟨a1, a2, a3⟩ := Tryz.arr_room
  rw [run_sliceAt_array_h (P := Tryz.prog) W _ _ a1 _ _ (by omega) (by rw [a2]; omega), a2, a3]
  simp [sizeOf, typeInfo, hi, hz1, slicedAt, Addr.add_lit]
theorem run_room_all (g : Nat) (W : World) : (Instr.sliceAt 223 (.pointer (some ⟨g, 0, none⟩)) none none none).run Tryz.prog W = .ok (.slice (some ⟨g, 0, none⟩) 32768 32768) W := by
  obtain ⟨i0, hi, hz0, hz1, hz2⟩ := info_parts Tryz.info_u8
  obtain ⟨a1, a2, a3⟩ := Tryz.arr_room
  rw [run_sliceAt_array_all (P := Tryz.prog) W _ _ a1, a2, a3]
  simp [sizeOf, typeInfo, hi, hz1, slicedAt, Addr.add_lit]
set_option maxRecDepth 100000 in
set_option maxHeartbeats 3200000 in
theorem rput_any (g : Nat) (rs : List Int) (s p c : Nat) (t d : List Int) (ao : Option Addr) (cap : Nat) (w : World) (h : RingAt w g rs s p c) (hI : RingIs rs s p c t) (hs : s ≤ 32768) (hr : Row w ao d) (hf : d.length ≤ cap) (hcap : cap ≤ maxLen) (hb : ∀ ad, ao = some ad → ad.block < g) :
    Calls Tryz.prog 162 #[.pointer (some ⟨g, 0, none⟩), .slice ao d.length cap] w fun e w' => e = .returned (.tuple #[]) ∧ (∃ rs' p' c', RingAt w' g rs' s (p' : Nat) (c' : Nat) ∧ RingIs rs' s p' c' (lastN s (t ++ d))) ∧ Below g w w' := by
  obtain ⟨c0, c1, c2, fz⟩ := h.three
  have HR := hide1 hr
  have HI := hide1 hI
  have HH := hide1 h
  have hp := hI.place
  have hs0 := hI.pos
  have hglt := h.lt
  unfold maxLen at hcap
  clear hr h hI fz
  go_enter Tryz.func162, Tryz.ntmps162
  go_upto_region 0 with fail
  go_cut [1] from 5 to 14 (fun v wx => ∃ ao' cap', v = .slice ao' (lastN s d).length cap' ∧ Row wx ao' (lastN s d) ∧ wx = w ∧ (lastN s d).length ≤ cap' ∧ cap' ≤ 9223372036854775807 ∧ ∀ ad, ao' = some ad → ad.block < g)
  case first =>
    go_wp2_with fail
    · have e : lastN s d = d := lastN_all (by omega)
      go_meet
      exact ⟨ao, 0, by rw [e], by rw [e]; exact HR.out, rfl, by rw [e]; omega, by omega, hb⟩
    · have e : lastN s d = d.drop (d.length - s) := rfl
      have el : (lastN s d).length = d.length - (d.length - s) := by rw [e, List.length_drop]
      go_meet
      refine ⟨_, _, by rw [el], HR.out.last (by omega), rfl, by omega, by omega, ?_⟩
      intro ad ea
      cases ao with
      | none => cases ea
      | some x =>
        simp only [Option.map_some, Option.some.injEq] at ea
        subst ea
        have := hb x rfl
        unfold Addr.add
        split <;> exact this
    · have e : lastN s d = d := lastN_all (by omega)
      go_meet
      exact ⟨ao, cap, by rw [e], by rw [e]; exact HR.out, rfl, by rw [e]; omega, by omega, hb⟩
  case rest =>
    obtain ⟨ao', cap', rfl, hrow, hw, hf', hc', hb'⟩ := hcut
    have hw' := hw.symm
    subst hw'
    clear hb HR hf hcap
    have hDl : (lastN s d).length ≤ s := by rw [lastN_len]; omega
    have HT := hide1 (lastN_app s t d)
    generalize hD : lastN s d = D at *
    have HDD := hide1 hD
    clear hD
    have HR := hide1 hrow
    clear hrow
    obtain ⟨X1, hX1⟩ : ∃ X1, X1 = (D.take (s - p)).map (Value.int .u8) := ⟨_, rfl⟩
    obtain ⟨k, hk⟩ : ∃ k, k = min (s - p) D.length := ⟨_, rfl⟩
    have hX1l : X1.length = k := by rw [hX1, hk]; simp
    have hk1 : k ≤ s - p := by omega
    have hkD : k ≤ D.length := by omega
    have hkd : D.drop k = D.drop (s - p) := by
      rw [hk]
      rcases Nat.le_total (s - p) D.length with h | h
      · rw [Nat.min_eq_left h]
      · rw [Nat.min_eq_right h, List.drop_eq_nil_of_le (Nat.le_refl _), List.drop_eq_nil_of_le h]
    have HKD := hide1 hkd
    have HK := hide1 hk
    clear hkd hk
    have HX1 := hide1 hX1
    clear hX1
    have hsl := run_room_ps g p s hp hs w.drew
    have P1 : Hid (0 < X1.length → some (⟨g, p, none⟩ : Addr) = some ⟨g, p, none⟩ ∧ ∃ ad, ao' = some ad ∧ ∀ j v, X1[j]? = some v → w.drew.cell? (ad.add j) = some v) := by
      intro h0
      refine ⟨rfl, ?_⟩
      rw [HX1.out] at h0 ⊢
      exact (HR.out.take (s - p)).first (by simpa using h0)
    have P2 : Hid (p + X1.length ≤ (rs.map (Value.int .u8) ++ [Value.int .i64 s, Value.int .i64 p, Value.int .i64 c]).length) := by
      show _ ≤ _
      rw [List.length_append, List.length_map, HH.out.len]; simp; omega
    have P3 : Hid (∀ v ∈ X1, v.oneCell' = true) := by
      show ∀ v ∈ X1, v.oneCell' = true
      rw [HX1.out]; exact ints_oneCell _ _
    go_upto_region 1 with fail
    go_cut [4] from 15 to 28 (fun v wx => v = .int .i64 (k : Nat) ∧ RingAt wx g (splice rs p (D.take (s - p))) s p c ∧ Below g w wx)
    case first =>
      go_region_law (refine step_copy_splice rfl (.tmp 26) (.tmp 27) 22 22 rfl 5 Tryz.underlying22 Tryz.size_u8 (some ⟨g, p, none⟩) ao' (s - p) (32768 - p) D.length cap' (by simp [Act.eval]) (by simp [Act.eval]) g p _ 225 HH.out.heap X1 (by rw [hX1l]; exact HK.out.trans (Nat.min_comm _ _)) P1.out P2.out P3.out g w (Below.refl _ _).drew (Nat.le_refl _) ?_; intro w4 hg4 hb4)
      all_goals
        have h4 : RingAt w4 g (splice rs p (D.take (s - p))) s p c := ring_splice HH.out (by simp; omega) (by have e := hg4.out; rw [HX1.out] at e; exact e)
        go_wp2_with fail
        go_meet
        exact ⟨rfl, h4, hb4⟩
    case rest =>
    obtain ⟨rfl, h4, hb4⟩ := hcut
    obtain ⟨w4, hw4⟩ : ∃ x, x = wc := ⟨_, rfl⟩
    subst hw4
    have HH4 := hide1 h4
    clear hsl P1 P2 P3 c0 c1 c2 HX1 hX1l h4 HH
    have hI4 := hide1 (HI.out.copies hDl)
    have HR4 := hide1 (Row.under HR.out hb4 hb')
    obtain ⟨ao2, hE, hsl2, hrow2⟩ := run_cut ao' D cap' k hkD hf'
    have hs2 := hsl2 w4.drew
    have hsl := run_room_all g w4.drew
    obtain ⟨X2, hX2⟩ : ∃ X2, X2 = (D.drop (s - p)).map (Value.int .u8) := ⟨_, rfl⟩
    have hX2l : X2.length = D.length - k := by rw [hX2, List.length_map, ← HKD.out, List.length_drop]
    have HX2 := hide1 hX2
    have HRW := hide1 (hrow2 w4 HR4.out)
    clear hX2 hsl2 hrow2
    have P1 : Hid (0 < X2.length → some (⟨g, 0, none⟩ : Addr) = some ⟨g, 0, none⟩ ∧ ∃ ad, ao2 = some ad ∧ ∀ j v, X2[j]? = some v → w4.drew.cell? (ad.add j) = some v) := by
      intro h0
      refine ⟨rfl, ?_⟩
      rw [HX2.out, ← HKD.out] at h0 ⊢
      exact HRW.out.first (by simpa using h0)
    have P2 : Hid (0 + X2.length ≤ ((splice rs p (D.take (s - p))).map (Value.int .u8) ++ [Value.int .i64 s, Value.int .i64 p, Value.int .i64 c]).length) := by
      show _ ≤ _
      rw [List.length_append, List.length_map, HH4.out.len, hX2l]; simp; omega
    have P3 : Hid (∀ v ∈ X2, v.oneCell' = true) := by
      show ∀ v ∈ X2, v.oneCell' = true
      rw [HX2.out]; exact ints_oneCell _ _
    go_upto_region 2 with fail
    go_cut [4] from 29 to 36 (fun v wx => v = .int .i64 (k : Nat) ∧ RingAt wx g (splice (splice rs p (D.take (s - p))) 0 (D.drop (s - p))) s p c ∧ Below g w wx)
    case first =>
      go_region_law (refine step_copy_splice rfl (.tmp 32) (.tmp 35) 22 22 rfl 5 Tryz.underlying22 Tryz.size_u8 (some ⟨g, 0, none⟩) ao2 32768 32768 (D.length - k) (cap' - k) (by simp [Act.eval, Act.put]) (by simp [Act.eval, Act.put]) g 0 _ 225 HH4.out.heap X2 (by rw [hX2l]; exact (Nat.min_eq_left (by omega)).symm) P1.out P2.out P3.out g w hb4.drew (Nat.le_refl _) ?_; intro w5 hg5 hb5)
      all_goals
        have h5 : RingAt w5 g (splice (splice rs p (D.take (s - p))) 0 (D.drop (s - p))) s p c := ring_splice HH4.out (by simp; omega) (by have e := hg5.out; rw [HX2.out] at e; exact e)
        go_wp2_with fail
        go_meet
        exact ⟨rfl, h5, hb5⟩
    case rest =>
    obtain ⟨rfl, h5, hb5⟩ := hcut
    have hcs := HI.out.most
    have HM := hide1 (moveOn_any g _ s p c D.length wc h5 hs0 hs hp hcs hDl)
    clear h5 hsl hs2 P1 P2 P3 HX2 hX2l hE
    go_wp2_with fail
    refine Calls.mono HM.out ?_
    rintro e w6 ⟨rfl, h6, hg6, hz6⟩
    go_wp2_with fail
    go_end0
    refine ⟨rfl, ⟨_, _, _, h6, ?_⟩, ?_⟩
    · rw [← HT.out]
      exact hI4.out
    · exact hb5.trans ⟨hg6.os, hg6.tape, hg6.output, hg6.size, fun k hk => hg6.block k (by have := hb5.size; omega) (by simp; omega)⟩

end Go.Proofs.YtbddkkfakkedaaaGreatDoor
namespace Go.Proofs.YtbddkkfakkedaaaGreatDoor
open Go.RowKit
attribute [local go_sem ↓] Go.wp_at_zero Go.wp_at_succ
set_option linter.unusedVariables false

set_option maxRecDepth 10000000 in
theorem Tryz.zero_ring : Tryz.zeroCells225 = ((List.replicate 32768 (Value.int .u8 0)) ++ [Value.int .i64 0, Value.int .i64 0, Value.int .i64 0]).toArray := by kernel_rfl
theorem app3_set0 (L : List Value) (a b c d : Value) (n : Nat) (h : L.length = n) : (L ++ [a, b, c]).set n d = L ++ [d, b, c] := by subst h; rw [List.set_append_right _ _ (by omega)]; simp
theorem ring_built (s : Int) : Tryz.zeroCells225.setIfInBounds 32768 (.int .i64 s) = ((List.replicate 32768 (0 : Int)).map (Value.int .u8) ++ [Value.int .i64 s, Value.int .i64 0, Value.int .i64 0]).toArray := by
  rw [Tryz.zero_ring]
  have hL : (List.replicate 32768 (Value.int .u8 0)).length = 32768 := List.length_replicate
  rw [List.map_replicate]
  generalize List.replicate 32768 (Value.int .u8 0) = L at *
  have e := app3_set0 L (.int .i64 0) (.int .i64 0) (.int .i64 0) (.int .i64 s) 32768 hL
  rw [List.setIfInBounds_toArray, e]
theorem alloc_heap (w : World) (o : Obj) : (w.alloc o).heap[w.heap.size]? = some o := by
  show (w.heap.push o)[w.heap.size]? = some o
  simp

set_option maxRecDepth 100000 in
set_option maxHeartbeats 3200000 in
theorem newRing_any (s : Nat) (d : List Int) (ao : Option Addr) (cap : Nat) (w : World) (hs0 : 0 < s) (hs : s ≤ 32768) (hr : Row w ao d) (hf : d.length ≤ cap) (hcap : cap ≤ maxLen) (hb : ∀ ad, ao = some ad → ad.block < w.heap.size) :
    Calls Tryz.prog 131 #[.int .i64 s, .slice ao d.length cap] w fun e w' => ∃ g, e = .returned (.pointer (some ⟨g, 0, none⟩)) ∧ w.heap.size ≤ g ∧ g < w'.heap.size ∧ (∃ rs' p' c', RingAt w' g rs' s (p' : Nat) (c' : Nat) ∧ RingIs rs' s p' c' (lastN s d)) ∧ Below g w w' := by
  have hz := ring_built s
  have hL : (List.replicate 32768 (0 : Int)).length = 32768 := List.length_replicate
  generalize List.replicate 32768 (0 : Int) = L at *
  have h0 : RingAt (w.alloc (.cells (L.map (Value.int .u8) ++ [Value.int .i64 s, Value.int .i64 0, Value.int .i64 0]).toArray 225)) w.heap.size L s (0 : Nat) (0 : Nat) := ⟨alloc_heap _ _, hL⟩
  have hb0 : Below w.heap.size w (w.alloc (.cells (L.map (Value.int .u8) ++ [Value.int .i64 s, Value.int .i64 0, Value.int .i64 0]).toArray 225)) := (Below.refl _ _).alloc (Nat.le_refl _) _
  have HP := hide1 (rput_any w.heap.size L s 0 0 [] d ao cap _ h0 (RingIs.new L s hs0 (by omega)) hs (hr.below hb0) hf hcap hb)
  generalize hZ : L.map (Value.int .u8) ++ [Value.int .i64 s, Value.int .i64 0, Value.int .i64 0] = Z at *
  have HZ := hide1 hZ
  have HZ2 := hide1 hz
  have HH0 := hide1 h0
  clear hZ hr h0 hL hz
  go_enter Tryz.func131, Tryz.ntmps131
  go_wp2_with fail
  rw [HZ2.out]
  refine Calls.mono HP.out ?_
  rintro e w1 ⟨rfl, ⟨rs', p', c', hr1, hi1⟩, hb1⟩
  go_wp2_with fail
  go_ret
  exact ⟨w.heap.size, rfl, Nat.le_refl _, hr1.lt, ⟨rs', p', c', hr1, hi1⟩, hb0.trans hb1⟩

end Go.Proofs.YtbddkkfakkedaaaGreatDoor
