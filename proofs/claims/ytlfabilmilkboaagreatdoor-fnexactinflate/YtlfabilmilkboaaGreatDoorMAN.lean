import Derived.Test.YtlfabilmilkboaaGreatDoorProg
import Derived.WalkKit
import Derived.WalkSpells
import Derived.WalkLawsBesides
import Derived.Deep.QuietTactic
import Derived.BigQuiet
import Derived.Laws.Pointers
import Derived.Deep.RegionHeld3
import Derived.Deep.DrawnRows
import Derived.Laws.BitsAllLaws
import Derived.Lib.MinMax
import Derived.Test.YtlfabilmilkboaaGreatDoorMAB
import Derived.Test.YtlfabilmilkboaaGreatDoorMAD
namespace Go.Proofs.YtlfabilmilkboaaGreatDoor
open Go.RowKit
attribute [local go_sem ↓] Go.wp_at_zero Go.wp_at_succ

theorem Tryz.info_u8s : (Tryz.prog.info? 5).map (fun i => (i.zero, i.size, i.bytes)) = some (some (.int .u8 0), 1, 1) := by kernel_rfl

/-- impl.copyBytes. -/
theorem copyBytes_owns (ao : Option Addr) (cap : Nat) (zs : List Int) (w : World) (hr : Row w ao zs) (hnil : ao = none → cap = 0) (hn : zs.length ≤ 140737488355328) :
    Calls Tryz.prog 59 #[.slice ao zs.length cap] w fun e w' => ∃ ao' cap', e = .returned (.slice ao' zs.length cap') ∧ OwnsB 5 w.heap.size w' ao' cap' zs ∧ Below w.heap.size w w' := by
  obtain ⟨i0, hi, hz0, hz1, hz2⟩ := info_parts Tryz.info_u8s
  have hnl : ao = none → zs.length = 0 ∧ cap = 0 := by
    intro e
    refine ⟨?_, hnil e⟩
    rcases Nat.eq_zero_or_pos zs.length with h | h
    · exact h
    · obtain ⟨b, off, e', _⟩ := hr 0 h
      rw [e] at e'; cases e'
  go_enter Tryz.func59, Tryz.ntmps59
  go_wp2_with (at_builtin; refine wpList_append_row _ rfl _ _ 22 rfl w.heap.size 5 i0 (.int .u8 0) 1 Tryz.underlying22 hi hz0 hz1 hz2 rfl (.slice none 0 0) 0 [] rfl (World.ownsRow_nil _ _ _ _) ao cap zs rfl hr hnl (by unfold maxLen; omega) (by omega) (Nat.le_refl _) ?_)
  intro v' w1 hown hgrow hat
  have hb : Below w.heap.size w w1 := below_of_grownBy hgrow
  obtain ⟨ao', cap', e, hm⟩ := OwnsB.of hown
  rw [e]
  clear hown hgrow hat hr hnl e
  go_wp2_with fail
  go_ret
  exact ⟨ao', cap', rfl, hm, hb⟩
theorem copyBytes_any (ao : Option Addr) (cap : Nat) (zs : List Int) (w : World) (hr : Row w ao zs) (hnil : ao = none → cap = 0) (hn : zs.length ≤ 140737488355328) :
    Calls Tryz.prog 59 #[.slice ao zs.length cap] w fun e w' => ∃ ao' cap', e = .returned (.slice ao' zs.length cap') ∧ Mine w.heap.size w' ao' cap' zs ∧ Below w.heap.size w w' :=
  (copyBytes_owns ao cap zs w hr hnil hn).mono fun _ _ ⟨x, y, h1, h2, h3⟩ => ⟨x, y, h1, h2.mine, h3⟩

/-- A source in memory: its three cells. -/
def Src (w : World) (p : Nat) (v : Value) (a u : Int) : Prop :=
  w.cell? ⟨p, 0, none⟩ = some v ∧ w.cell? ⟨p, 1, none⟩ = some (.int .i64 a) ∧ w.cell? ⟨p, 2, none⟩ = some (.int .i64 u) ∧
    w.frozen? ⟨p, 0, none⟩ = false ∧ w.frozen? ⟨p, 1, none⟩ = false ∧ w.frozen? ⟨p, 2, none⟩ = false

theorem src_new (w : World) (v : Value) (a u : Int) (t : TypeId) : Src (w.alloc (.cells #[v, .int .i64 a, .int .i64 u] t)) w.heap.size v a u := by
  simp [Src, go_sem]

set_option maxRecDepth 100000 in
set_option maxHeartbeats 3200000 in
/-- impl.openSource. -/
theorem openSource_owns (ao : Option Addr) (cap : Nat) (zs : List Int) (a u : Int) (w : World) (hr : Row w ao zs) (hnil : ao = none → cap = 0) (hn : zs.length ≤ 140737488355328) :
    Calls Tryz.prog 42 #[.agg #[.slice ao zs.length cap, .int .i64 a, .int .i64 u]] w fun e w' => ∃ p ao' cap', e = .returned (.pointer (some ⟨p, 0, none⟩)) ∧ Src w' p (.slice ao' zs.length cap') a u ∧ OwnsB 5 w.heap.size w' ao' cap' zs ∧ w.heap.size < p ∧ p < w'.heap.size ∧ blk ao' ≠ some p ∧ Below w.heap.size w w' := by
  go_enter Tryz.func42, Tryz.ntmps42
  go_wp2
  go_region_held3 (fun w' => w'.cell? ⟨w.heap.size, 0, none⟩ = some (.slice ao zs.length cap) ∧ w'.cell? ⟨w.heap.size, 1, none⟩ = some (.int .i64 a) ∧ w'.cell? ⟨w.heap.size, 2, none⟩ = some (.int .i64 u))
    (first | go_keep | (simp [*]))
    (first | (go_at_call 59; refine (copyBytes_owns ao cap zs _ (hr.below ?_) hnil hn).mono ?_; (exact ((Below.refl _ _).alloc (Nat.le_refl _) _).drew); rintro e w1 ⟨ao', cap', rfl, hm, hb⟩; obtain ⟨hc, hf⟩ := bcell hb))
  go_wp2_with fail
  go_ret
  have hz : w.heap.size + 1 ≤ w1.heap.size := by have := hb.size; simp at this; omega
  have hbl : Below w.heap.size w w1 := (((Below.refl w.heap.size w).alloc (Nat.le_refl _) _).drew).trans (hb.mono (by simp))
  refine ⟨w1.heap.size, ao', cap', by simp, src_new _ _ _ _ _, (hm.mono (by simp)).below ((Below.refl _ _).alloc (Nat.le_refl _) _), by omega, by simp, ?_, hbl.alloc (by omega) _⟩
  intro e
  cases ao' with
  | none => cases e
  | some ad =>
    have := (hm.mine.lies ad rfl).2.1
    simp [blk] at e
    omega

theorem openSource_any (ao : Option Addr) (cap : Nat) (zs : List Int) (a u : Int) (w : World) (hr : Row w ao zs) (hnil : ao = none → cap = 0) (hn : zs.length ≤ 140737488355328) :
    Calls Tryz.prog 42 #[.agg #[.slice ao zs.length cap, .int .i64 a, .int .i64 u]] w fun e w' => ∃ p ao' cap', e = .returned (.pointer (some ⟨p, 0, none⟩)) ∧ Src w' p (.slice ao' zs.length cap') a u ∧ Mine w.heap.size w' ao' cap' zs ∧ w.heap.size < p ∧ p < w'.heap.size ∧ blk ao' ≠ some p ∧ Below w.heap.size w w' :=
  (openSource_owns ao cap zs a u w hr hnil hn).mono fun _ _ ⟨p, x, y, h1, h2, h3, h4⟩ => ⟨p, x, y, h1, h2, h3.mine, h4⟩

theorem Src.drewN {w : World} {p : Nat} {v : Value} {a u : Int} (h : Src w p v a u) (k : Nat) : Src (w.drewN k) p v a u := h
theorem Src.grown {w w' : World} {row : Option Nat} {p : Nat} {v : Value} {a u : Int} (h : Src w p v a u) (hg : w.grownBy w' row) (hne : some p ≠ row) : Src w' p v a u := by
  obtain ⟨h1, h2, h3, h4, h5, h6⟩ := h
  have hp : p < w.heap.size := World.block_lt_of_cell? w _ h1
  have e := hg.block p hp hne
  refine ⟨(World.cell?_of_block (w := w) e).trans h1, (World.cell?_of_block (w := w) e).trans h2, (World.cell?_of_block (w := w) e).trans h3, ?_, ?_, ?_⟩
  · exact (World.frozen?_of_block (w := w) e).trans h4
  · exact (World.frozen?_of_block (w := w) e).trans h5
  · exact (World.frozen?_of_block (w := w) e).trans h6

/-- Whether n bits are there. -/
def hasB (len : Nat) (a u n : Int) : Bool := decide (n ≤ 8 * (len : Int) - a ∧ n ≤ 34359738368 - u)
theorem hasB_no {len : Nat} {a u n : Int} (h : ¬ n ≤ 8 * (len : Int) - a) : false = hasB len a u n := (decide_eq_false (by omega)).symm
theorem hasB_yes {len : Nat} {a u n : Int} (h : n ≤ 8 * (len : Int) - a) : decide (n ≤ 34359738368 - u) = hasB len a u n := by
  unfold hasB
  rw [Bool.eq_iff_iff]
  simp
  omega

set_option maxHeartbeats 3200000 in
/-- (*source).has. -/
theorem has_any (p : Nat) (ao : Option Addr) (len cap : Nat) (a u n : Int) (w : World) (hs : Src w p (.slice ao len cap) a u) (hl : len ≤ 1000000) (a0 : 0 ≤ a) (a7 : a ≤ 7) (u0 : 0 ≤ u) (u1 : u ≤ 34359738368) (n0 : 0 ≤ n) (n1 : n ≤ 8000000) :
    Calls Tryz.prog 61 #[.pointer (some ⟨p, 0, none⟩), .int .i64 n] w fun e w' => e = .returned (.bool (hasB len a u n)) ∧ ∃ q, w' = w.drewN q := by
  obtain ⟨c0, c1, c2, _, _, _⟩ := hs
  by_cases h : n ≤ 8 * (len : Int) - a
  · have HB : Hid (decide (n ≤ 34359738368 - u) = hasB len a u n) := hasB_yes h
    have hd : decide (n ≤ 8 * (len : Int) - a) = true := decide_eq_true h
    go_enter Tryz.func61, Tryz.ntmps61
    go_wp2
    go_quiet (fail)
    go_wp2
    go_ret
    exact ⟨retb HB.out, _, rfl⟩
  · have HB : Hid (false = hasB len a u n) := hasB_no h
    have hd : decide (n ≤ 8 * (len : Int) - a) = false := decide_eq_false h
    go_enter Tryz.func61, Tryz.ntmps61
    go_wp2
    go_quiet (fail)
    go_wp2
    go_ret
    exact ⟨retb HB.out, _, rfl⟩

/-- The address of a slice cut at its head. -/
def cutAt (ao : Option Addr) (cap k : Nat) : Option Addr := if cap = k then ao else ao.map (·.add k)

theorem Row.cut {w : World} {ao : Option Addr} {zs : List Int} (h : Row w ao zs) {cap k : Nat} (hc : zs.length ≤ cap) : Row w (cutAt ao cap k) (zs.drop k) := by
  intro i hi
  rw [List.length_drop] at hi
  obtain ⟨b, off, rfl, hcell⟩ := h (k + i) (by omega)
  unfold cutAt
  rw [if_neg (by omega)]
  refine ⟨b, off + k, by simp [Addr.add_lit], ?_⟩
  rw [Nat.add_assoc, hcell]
  simp [List.getD]

theorem src_set {w : World} {p : Nat} {v : Value} {a u : Int} (h : Src w p v a u) (v' : Value) (a' u' : Int) :
    Src (((w.setCell ⟨p, 0, none⟩ v').setCell ⟨p, 1, none⟩ (.int .i64 a')).setCell ⟨p, 2, none⟩ (.int .i64 u')) p v' a' u' ∧
      w.grownBy (((w.setCell ⟨p, 0, none⟩ v').setCell ⟨p, 1, none⟩ (.int .i64 a')).setCell ⟨p, 2, none⟩ (.int .i64 u')) (some p) ∧
      (((w.setCell ⟨p, 0, none⟩ v').setCell ⟨p, 1, none⟩ (.int .i64 a')).setCell ⟨p, 2, none⟩ (.int .i64 u')).heap.size = w.heap.size := by
  obtain ⟨c0, c1, c2, f0, f1, f2⟩ := h
  refine ⟨⟨?_, ?_, ?_, ?_, ?_, ?_⟩, ?_, by simp⟩
  · rw [World.cell?_setCell_other _ _ _ _ (by simp), World.cell?_setCell_other _ _ _ _ (by simp), World.cell?_setCell_same _ _ _ c0]
  · rw [World.cell?_setCell_other _ _ _ _ (by simp), World.cell?_setCell_same _ _ _ (u := .int .i64 a) (by rw [World.cell?_setCell_other _ _ _ _ (by simp)]; exact c1)]
  · rw [World.cell?_setCell_same _ _ _ (u := .int .i64 u) (by rw [World.cell?_setCell_other _ _ _ _ (by simp), World.cell?_setCell_other _ _ _ _ (by simp)]; exact c2)]
  · simp [World.frozen?_setCell, f0]
  · simp [World.frozen?_setCell, f1]
  · simp [World.frozen?_setCell, f2]
  · exact grownBy_trans (grownBy_trans (grownBy_setCell w ⟨p, 0, none⟩ _) (grownBy_setCell _ ⟨p, 1, none⟩ _)) (grownBy_setCell _ ⟨p, 2, none⟩ _)

set_option maxHeartbeats 3200000 in
/-- (*source).pass. -/
theorem pass_any (p : Nat) (ao : Option Addr) (len cap : Nat) (a u n : Int) (w : World) (hs : Src w p (.slice ao len cap) a u) (hl : len ≤ 1000000) (a0 : 0 ≤ a) (a7 : a ≤ 7) (u0 : 0 ≤ u) (u1 : u ≤ 34359738368) (n0 : 0 ≤ n) (n1 : a + n ≤ 8 * (len : Int)) :
    Calls Tryz.prog 62 #[.pointer (some ⟨p, 0, none⟩), .int .i64 n] w fun e w' => e = .returned (.tuple #[]) ∧
      Src w' p (.slice (cutAt ao cap ((a + n) / 8).toNat) (len - ((a + n) / 8).toNat) (cap - ((a + n) / 8).toNat)) ((a + n) % 8) (u + n) ∧ w.grownBy w' (some p) ∧ w'.heap.size = w.heap.size := by
  obtain ⟨c0, c1, c2, f0, f1, f2⟩ := hs
  obtain ⟨k, hk⟩ : ∃ k : Nat, (a + n) / 8 = (k : Int) := ⟨((a + n) / 8).toNat, by omega⟩
  go_enter Tryz.func62, Tryz.ntmps62
  go_wp2
  · go_end0
    refine ⟨rfl, ?_⟩
    have hc : cutAt ao k k = ao := if_pos rfl
    rw [hc]
    exact src_set ⟨c0, c1, c2, f0, f1, f2⟩ _ _ _
  · go_end0
    refine ⟨rfl, ?_⟩
    have hc : cutAt ao cap k = ao.map (·.add k) := if_neg (by assumption)
    rw [hc]
    exact src_set ⟨c0, c1, c2, f0, f1, f2⟩ _ _ _

/-- Mine, cut at its head. -/
theorem Mine.cut {B : Nat} {w : World} {ao : Option Addr} {cap : Nat} {zs : List Int} (h : Mine B w ao cap zs) (k : Nat) (hk : k ≤ zs.length) : Mine B w (cutAt ao cap k) (cap - k) (zs.drop k) := by
  have hf := h.fits
  refine ⟨by rw [List.length_drop]; omega, by have := h.most; omega, h.row.cut hf, ?_, ?_, ?_⟩
  · intro ad e i hi
    rw [List.length_drop] at hi
    unfold cutAt at e
    rw [if_neg (by omega)] at e
    cases ao with
    | none => cases e
    | some x =>
      simp only [Option.map_some, Option.some.injEq] at e
      subst e
      obtain ⟨b, off, sp⟩ := x
      have hsp := (h.lies _ rfl).2.2
      simp only at hsp
      subst hsp
      have := h.free ⟨b, off, none⟩ rfl (k + i) (by omega)
      rw [Addr.add_lit, Nat.add_assoc]
      exact this
  · intro ad e
    unfold cutAt at e
    split at e
    · exact h.lies ad e
    · cases ao with
      | none => cases e
      | some x =>
        simp only [Option.map_some, Option.some.injEq] at e
        subst e
        obtain ⟨b, off, sp⟩ := x
        have hl := h.lies _ rfl
        obtain ⟨h1, h2, h3⟩ := hl
        simp only at h3
        subst h3
        rw [Addr.add_lit]
        exact ⟨h1, h2, rfl⟩
  · intro e
    unfold cutAt at e
    split at e
    · omega
    · cases ao with
      | none => have := h.bare rfl; omega
      | some x => simp at e
theorem blk_cut (ao : Option Addr) (cap k : Nat) (h : ∀ ad, ao = some ad → ad.spot = none) : blk (cutAt ao cap k) = blk ao := by
  unfold cutAt
  split
  · rfl
  · cases ao with
    | none => rfl
    | some x =>
      obtain ⟨b, off, sp⟩ := x
      have := h _ rfl
      simp only at this
      subst this
      simp [blk, Addr.add_lit]
theorem Mine.nothing (B : Nat) (w : World) : Mine B w none 0 [] :=
  ⟨Nat.le_refl _, Nat.zero_le _, Row.nil _ _, (fun _ e => by cases e), (fun _ e => by cases e), fun _ => rfl⟩

/-- What a function that gives a reader back has left. -/
def ResB (B : Nat) (w : World) (e : Ending) (zs : List Int) (a u : Int) : Prop :=
  ∃ ao cap, e = .returned (.agg #[.slice ao zs.length cap, .int .i64 a, .int .i64 u]) ∧ Mine B w ao cap zs
def ResO (B : Nat) (w : World) (e : Ending) (zs : List Int) (a u : Int) : Prop :=
  ∃ ao cap, e = .returned (.agg #[.slice ao zs.length cap, .int .i64 a, .int .i64 u]) ∧ OwnsB 5 B w ao cap zs
theorem ResO.res {B : Nat} {w : World} {e : Ending} {zs : List Int} {a u : Int} (h : ResO B w e zs a u) : ResB B w e zs a u := by
  obtain ⟨x, y, h1, h2⟩ := h
  exact ⟨x, y, h1, h2.mine⟩
end Go.Proofs.YtlfabilmilkboaaGreatDoor
/-
  THE NUMBER OF A LIST OF BYTES, the first the lowest; its bits. No program.
-/
namespace Go.Proofs.YtlfabilmilkboaaGreatDoor
open Go.RowKit

def bnum : List Int → Nat
  | [] => 0
  | z :: r => z.toNat + 256 * bnum r

theorem bnum_lt (zs : List Int) (h : Octets zs) : bnum zs < 256 ^ zs.length := by
  induction zs with
  | nil => decide
  | cons z r ih =>
    have h1 := h z (List.mem_cons_self)
    have h2 := ih (fun x hx => h x (List.mem_cons_of_mem _ hx))
    simp only [bnum, List.length_cons, Nat.pow_succ]
    omega

theorem bnum_append (xs ys : List Int) : bnum (xs ++ ys) = bnum xs + 256 ^ xs.length * bnum ys := by
  induction xs with
  | nil => simp [bnum]
  | cons z r ih =>
    simp only [List.cons_append, bnum, ih, List.length_cons, Nat.pow_succ]
    rw [Nat.mul_add, ← Nat.mul_assoc, Nat.mul_comm 256 (256 ^ r.length), Nat.add_assoc]

theorem Octets.take {zs : List Int} (h : Octets zs) (k : Nat) : Octets (zs.take k) := fun x hx => h x (List.mem_of_mem_take hx)
theorem Octets.drop {zs : List Int} (h : Octets zs) (k : Nat) : Octets (zs.drop k) := fun x hx => h x (List.mem_of_mem_drop hx)

theorem bnum_take_succ (zs : List Int) (k : Nat) (h : k < zs.length) : bnum (zs.take (k + 1)) = bnum (zs.take k) + (zs.getD k 0).toNat * 256 ^ k := by
  have e : zs.take (k + 1) = zs.take k ++ [zs.getD k 0] := by
    rw [List.take_succ_eq_append_getElem h]
    simp [List.getD, h]
  rw [e, bnum_append]
  simp [bnum, Nat.min_eq_left (Nat.le_of_lt h), Nat.mul_comm]

theorem two56 (k : Nat) : (256 : Nat) ^ k = 2 ^ (8 * k) := by
  rw [Nat.pow_mul]

/-- What lies below the first k bytes is told by them alone. -/
theorem bnum_low (zs : List Int) (k s n : Nat) (h : s + n ≤ 8 * k) : bnum (zs.take k) / 2 ^ s % 2 ^ n = bnum zs / 2 ^ s % 2 ^ n := by
  have e : bnum zs = bnum (zs.take k) + 256 ^ (zs.take k).length * bnum (zs.drop k) := by
    conv => lhs; rw [← List.take_append_drop k zs]
    exact bnum_append _ _
  by_cases hk : k ≤ zs.length
  · have hl : (zs.take k).length = k := by rw [List.length_take]; omega
    rw [e, hl, two56, show 8 * k = s + (8 * k - s) by omega, Nat.pow_add, Nat.mul_assoc, Nat.add_mul_div_left _ _ (Nat.two_pow_pos s),
      show 8 * k - s = n + (8 * k - s - n) by omega, Nat.pow_add, Nat.mul_assoc, Nat.add_mul_mod_self_left]
  · rw [List.take_of_length_le (by omega)]

/-- Bit j of a list of bytes. -/
theorem bnum_bit (zs : List Int) (hz : Octets zs) (j : Nat) : (zs.getD (j / 8) 0).toNat / 2 ^ (j % 8) % 2 = bnum zs / 2 ^ j % 2 := by
  induction zs generalizing j with
  | nil => simp [bnum]
  | cons z r ih =>
    have h1 := hz z (List.mem_cons_self)
    have h2 : Octets r := fun x hx => hz x (List.mem_cons_of_mem _ hx)
    by_cases hj : j < 8
    · have e0 : j / 8 = 0 := by omega
      have e1 : j % 8 = j := by omega
      rw [e0, e1]
      have := bnum_low (z :: r) 1 j 1 (by omega)
      simp only [List.take_succ_cons, List.take_zero, bnum, Nat.mul_zero, Nat.add_zero, Nat.pow_one] at this
      simpa [bnum] using this
    · obtain ⟨i, rfl⟩ : ∃ i, j = i + 8 := ⟨j - 8, by omega⟩
      have e0 : (i + 8) / 8 = i / 8 + 1 := by omega
      have e1 : (i + 8) % 8 = i % 8 := by omega
      rw [e0, e1]
      have hz0 : z.toNat < 256 := by omega
      have e2 : (z.toNat + 256 * bnum r) / 2 ^ (i + 8) = bnum r / 2 ^ i := by
        rw [Nat.pow_add, Nat.mul_comm (2 ^ i), ← Nat.div_div_eq_div_mul]
        congr 1
        show (z.toNat + 256 * bnum r) / 256 = bnum r
        omega
      simp only [bnum]
      rw [e2, ← ih h2 i]
      simp [List.getD]

/-- One bit more at the lowest place. -/
theorem mod_succ (M m : Nat) : M % 2 ^ (m + 1) = 2 * (M / 2 % 2 ^ m) + M % 2 := by
  rw [Nat.pow_succ, Nat.mul_comm (2 ^ m) 2, Nat.mod_mul]
  omega

/-- The number of n bits from bit s on. -/
def field (N s n : Nat) : Nat := N / 2 ^ s % 2 ^ n
theorem field_succ (N s m : Nat) : field N s (m + 1) = 2 * field N (s + 1) m + N / 2 ^ s % 2 := by
  unfold field
  rw [mod_succ, Nat.div_div_eq_div_mul, ← Nat.pow_succ]
theorem field_zero (N s : Nat) : field N s 0 = 0 := by unfold field; rw [Nat.pow_zero, Nat.mod_one]
theorem field_lt (N s n : Nat) : field N s n < 2 ^ n := Nat.mod_lt _ (Nat.two_pow_pos n)

theorem pow_int (m : Nat) : ((2 : Int) ^ m) = ((2 ^ m : Nat) : Int) := by simp

/-- One byte more, above the others. -/
theorem word_or (y k : Nat) (x : Int) (hy : y < 256 ^ k) (hk : k ≤ 4) (x0 : 0 ≤ x) (x1 : x ≤ 255) : bits .or .u64 (y : Int) (IntKind.u64.wrap (x * 2 ^ (8 * k))) = ((y + x.toNat * 256 ^ k : Nat) : Int) := by
  obtain ⟨X, rfl⟩ := Int.eq_ofNat_of_zero_le x0
  rw [Int.toNat_natCast, two56] at *
  have hp : (2 : Nat) ^ (8 * k) ≤ 2 ^ 32 := Nat.pow_le_pow_right (by decide) (by omega)
  have hX : X * 2 ^ (8 * k) ≤ 255 * 2 ^ 32 := Nat.mul_le_mul (by omega) hp
  have e : (X : Int) * 2 ^ (8 * k) = ((X * 2 ^ (8 * k) : Nat) : Int) := by rw [pow_int]; simp
  rw [e]
  have hor : y ||| X * 2 ^ (8 * k) = y + X * 2 ^ (8 * k) := by
    have := Nat.two_pow_add_eq_or_of_lt (i := 8 * k) (b := y) hy X
    rw [Nat.mul_comm, Nat.or_comm, ← this, Nat.add_comm]
  generalize X * 2 ^ (8 * k) = Z at *
  have hw : IntKind.u64.wrap (Z : Int) = (Z : Int) := by rw [IntKind.wrap_u64]; omega
  rw [hw, u64_or_nat y Z (by omega) (by omega), hor]

/-- The lowest n bits behind s. -/
theorem word_and (Y s n : Nat) (hY : Y < 18446744073709551616) (hn : n ≤ 32) : bits .and .u64 ((Y : Int) / 2 ^ s) (IntKind.u64.wrap (IntKind.u64.wrap (2 ^ n) - 1)) = ((field Y s n : Nat) : Int) := by
  have e : (Y : Int) / 2 ^ s = ((Y / 2 ^ s : Nat) : Int) := by rw [pow_int]; simp
  have hp : (2 : Nat) ^ n ≤ 2 ^ 32 := Nat.pow_le_pow_right (by decide) hn
  have hp0 : 0 < (2 : Nat) ^ n := Nat.two_pow_pos n
  have hd : Y / 2 ^ s ≤ Y := Nat.div_le_self _ _
  unfold field
  rw [e, pow_int n, ← Nat.and_two_pow_sub_one_eq_mod]
  generalize (2 : Nat) ^ n = Q at *
  have hw : IntKind.u64.wrap (IntKind.u64.wrap (Q : Int) - 1) = ((Q - 1 : Nat) : Int) := by rw [IntKind.wrap_u64, IntKind.wrap_u64]; omega
  rw [hw, u64_and_nat _ _ (by omega) (by omega)]

end Go.Proofs.YtlfabilmilkboaaGreatDoor
namespace Go.Proofs.YtlfabilmilkboaaGreatDoor
open Go.RowKit
attribute [local go_sem ↓] Go.wp_at_zero Go.wp_at_succ

theorem ret_i {k : IntKind} {a b : Int} (h : a = b) : Ending.returned (.int k a) = .returned (.int k b) := by rw [h]

set_option maxRecDepth 100000 in
set_option maxHeartbeats 3200000 in
/-- (bitReader).peek. -/
theorem peek_any (p : Nat) (ao : Option Addr) (cap : Nat) (zs : List Int) (a u : Int) (n : Nat) (w : World) (hs : Src w p (.slice ao zs.length cap) a u) (hr : Row w ao zs) (hz : Octets zs) (hfit : zs.length ≤ cap) (hl : zs.length ≤ 1000000) (a0 : 0 ≤ a) (a7 : a ≤ 7) (n1 : n ≤ 32) (hn : a + n ≤ 8 * (zs.length : Int)) :
    Calls Tryz.prog 78 #[.agg #[.pointer (some ⟨p, 0, none⟩)], .int .i64 n] w fun e w' => e = .returned (.int .u64 (field (bnum zs) a.toNat n : Nat)) ∧ Below w.heap.size w w' := by
  have hp : p < w.heap.size := World.block_lt_of_cell? w _ hs.1
  have hne : w.heap.size ≠ p := by omega
  obtain ⟨c0, c1, c2, f0, f1, f2⟩ := hs
  obtain ⟨m, hm⟩ : ∃ m : Nat, m = min zs.length 5 := ⟨_, rfl⟩
  have hmin : min (zs.length : Int) 5 = (m : Int) := by omega
  have hmax : max (m : Int) 0 = (m : Int) := by omega
  have hm5 : m ≤ 5 := by omega
  have hml : m ≤ zs.length := by omega
  have HM : Hid (m = min zs.length 5) := hm
  clear hm
  go_enter Tryz.func78, Tryz.ntmps78
  go_wp2
  go_quiet (fail)
  go_wp2_with fail
  go_loop [5, 22] (fun x i => ∃ k : Nat, k ≤ m ∧ i = .int .i64 k ∧ x = .int .u64 (bnum (zs.take k) : Nat)) (fun _ i => m - (intOf i).toNat)
  case atStart => exact ⟨0, Nat.zero_le _, rfl, rfl⟩
  case round =>
    obtain ⟨k, hk, rfl, rfl⟩ := hrel
    by_cases hlt : k < m
    · obtain ⟨b, off, rfl, hc⟩ := hr.at (k := k) (by omega)
      have hck := hc k (by omega)
      have hbw : b < w.heap.size := World.block_lt_of_cell? w _ hck
      have hzk := hz.getD k
      have hNs := bnum_take_succ zs k (by omega)
      have HNs : Hid (bnum (zs.take (k + 1)) = bnum (zs.take k) + (zs.getD k 0).toNat * 256 ^ k) := hNs
      clear hNs hc hr
      have hy : bnum (zs.take k) < 256 ^ k := by
        have := bnum_lt (zs.take k) (hz.take k)
        rw [List.length_take, Nat.min_eq_left (by omega)] at this
        exact this
      generalize zs.getD k 0 = x at *
      generalize bnum (zs.take k) = y at *
      go_wp2_with fail
      go_round
      case rel => exact ⟨k + 1, by omega, by go_num, by rw [HNs.out, word_or y k x hy (by omega) hzk.1 hzk.2]⟩
      case measure => simp [intOf]; omega
    · have e : k = m := by omega
      subst e
      have hy : bnum (zs.take k) < 18446744073709551616 := by
        have h1 := bnum_lt (zs.take k) (hz.take k)
        have h2 : (256 : Nat) ^ (zs.take k).length ≤ 256 ^ 5 := Nat.pow_le_pow_right (by decide) (by rw [List.length_take]; omega)
        omega
      have HF : Hid (field (bnum (zs.take k)) a.toNat n = field (bnum zs) a.toNat n) := bnum_low zs k a.toNat n (by have := HM.out; omega)
      clear hr
      go_wp2_with fail
      go_quiet (fail)
      go_wp2_with fail
      go_ret
      exact ⟨by rw [← HF.out]; exact ret_i (word_and _ _ n hy n1), ((((Below.refl _ _).alloc (Nat.le_refl _) _).trans (below_drewN' _ _ _)).trans (below_drewN' _ _ _))⟩

set_option maxHeartbeats 3200000 in
/-- (bitReader).take, where it is not Ok. -/
theorem take_no (p : Nat) (ao : Option Addr) (len cap : Nat) (a u n : Int) (w : World) (hs : Src w p (.slice ao len cap) a u) (hv : vld len a u = true) (hno : n < 0 ∨ 32 < n ∨ (0 ≤ n ∧ n ≤ 32 ∧ hasB len a u n = false)) :
    Calls Tryz.prog 60 #[.agg #[.pointer (some ⟨p, 0, none⟩)], .int .i64 n] w fun e w' => e = .returned (.tuple #[.int .u64 0, .bool false]) ∧ Below w.heap.size w w' := by
  obtain ⟨a0, a7, al, hl, u0, u1, um⟩ := vld_out hv
  clear al um hv
  rcases hno with h | h | ⟨h0, h1, h2⟩
  · clear hs
    go_enter Tryz.func60, Tryz.ntmps60
    go_wp2_with fail
    go_ret2
    exact ⟨rfl, (Below.refl _ _).alloc (Nat.le_refl _) _⟩
  · have h' : ¬ n < 0 := by omega
    clear hs
    go_enter Tryz.func60, Tryz.ntmps60
    go_wp2_with fail
    go_ret2
    exact ⟨rfl, (Below.refl _ _).alloc (Nat.le_refl _) _⟩
  · have HB : Hid (hasB len a u n = false) := h2
    clear h2
    have hs2 := hs.grown (World.grownBy_alloc w (Obj.cells #[Value.pointer (some ⟨p, 0, none⟩)] 48) none) (by simp)
    go_enter Tryz.func60, Tryz.ntmps60
    go_wp2_with fail
    refine (has_any p ao len cap a u n _ hs2 hl a0 a7 u0 u1 h0 (by omega)).mono ?_
    rintro e w' ⟨rfl, q, rfl⟩
    rw [HB.out]
    go_wp2_with fail
    go_ret2
    exact ⟨rfl, ((Below.refl _ _).alloc (Nat.le_refl _) _).trans (below_drewN' _ _ _)⟩

set_option maxHeartbeats 3200000 in
/-- (bitReader).take, Ok. -/
theorem take_yes (p : Nat) (ao : Option Addr) (cap : Nat) (zs : List Int) (a u : Int) (n : Nat) (w : World) (hs : Src w p (.slice ao zs.length cap) a u) (hr : Row w ao zs) (hz : Octets zs) (hfit : zs.length ≤ cap) (hv : vld zs.length a u = true) (n1 : n ≤ 32) (hh : hasB zs.length a u n = true) :
    Calls Tryz.prog 60 #[.agg #[.pointer (some ⟨p, 0, none⟩)], .int .i64 n] w fun e w' => e = .returned (.tuple #[.int .u64 (field (bnum zs) a.toNat n : Nat), .bool true]) ∧
      Src w' p (.slice (cutAt ao cap ((a + n) / 8).toNat) (zs.length - ((a + n) / 8).toNat) (cap - ((a + n) / 8).toNat)) ((a + n) % 8) (u + n) ∧ w.grownBy w' (some p) := by
  obtain ⟨a0, a7, al, hl, u0, u1, um⟩ := vld_out hv
  have hbits := of_decide_eq_true hh
  have HB : Hid (hasB zs.length a u n = true) := hh
  clear al um hv hh
  have hp : p < w.heap.size := World.block_lt_of_cell? w _ hs.1
  have hal := World.grownBy_alloc w (Obj.cells #[Value.pointer (some ⟨p, 0, none⟩)] 48) none
  have hs2 := hs.grown hal (by simp)
  have hr2 := hr.grown hal (by simp)
  have hrd : (w.alloc (.cells #[.pointer (some ⟨p, 0, none⟩)] 48)).cell? ⟨w.heap.size, 0, none⟩ = some (.pointer (some ⟨p, 0, none⟩)) := by simp [go_sem]
  go_enter Tryz.func60, Tryz.ntmps60
  go_wp2_with fail
  refine (has_any p ao zs.length cap a u n _ hs2 hl a0 a7 u0 u1 (by omega) (by omega)).mono ?_
  rintro e w' ⟨rfl, q, rfl⟩
  rw [HB.out]
  go_wp2_with fail
  refine (peek_any p ao cap zs a u n _ (hs2.drewN q) (hr2.drewN q) hz hfit hl a0 a7 n1 (by omega)).mono ?_
  rintro e w3 ⟨rfl, hb3⟩
  have hs3 := (hs2.drewN q).grown (grownBy_of_below hb3 none) (by simp)
  have hrd3 : w3.cell? ⟨w.heap.size, 0, none⟩ = some (.pointer (some ⟨p, 0, none⟩)) := (grownBy_of_below hb3 none).cell (by exact hrd) (by simp)
  have hg3 : w.grownBy w3 (some p) := grownBy_trans (grownBy_trans (World.grownBy_alloc w _ _) (grownBy_of_below (below_drewN' _ _ _) _)) (grownBy_of_below hb3 _)
  clear hr2 hs2 hrd hb3 hr hal
  go_wp2_with fail
  refine (pass_any p ao zs.length cap a u n _ hs3 hl a0 a7 u0 u1 (by omega) (by omega)).mono ?_
  rintro e w4 ⟨rfl, h1, h2, h3⟩
  go_wp2_with fail
  go_ret2
  exact ⟨rfl, h1, grownBy_trans hg3 h2⟩
end Go.Proofs.YtlfabilmilkboaaGreatDoor
namespace Go.Proofs.YtlfabilmilkboaaGreatDoor
open Go.RowKit
attribute [local go_sem ↓] Go.wp_at_zero Go.wp_at_succ

set_option maxHeartbeats 3200000 in
/-- (byteReader).bytes, where it is not Ok. -/
theorem bytes_no (p : Nat) (ao : Option Addr) (len cap : Nat) (a u n : Int) (w : World) (hs : Src w p (.slice ao len cap) a u) (hv : vld len a u = true) (hno : a ≠ 0 ∨ (a = 0 ∧ n < 0) ∨ (a = 0 ∧ 0 ≤ n ∧ (len : Int) < n) ∨ (a = 0 ∧ 0 ≤ n ∧ n ≤ len ∧ hasB len 0 u (8 * n) = false)) :
    Calls Tryz.prog 93 #[.agg #[.pointer (some ⟨p, 0, none⟩)], .int .i64 n] w fun e w' => e = .returned (.tuple #[.slice none 0 0, .bool false]) ∧ Below w.heap.size w w' := by
  obtain ⟨a0, a7, al, hl, u0, u1, um⟩ := vld_out hv
  clear al um hv
  have hp : p < w.heap.size := World.block_lt_of_cell? w _ hs.1
  have hne : w.heap.size ≠ p := by omega
  have hs' := hs
  obtain ⟨c0, c1, c2, f0, f1, f2⟩ := hs'
  rcases hno with h | ⟨rfl, h⟩ | ⟨rfl, h0, h⟩ | ⟨rfl, h0, h1, h2⟩
  · have hb : (a != 0) = true := by simpa using h
    clear hs h
    go_enter Tryz.func93, Tryz.ntmps93
    go_wp2_with fail
    go_ret2
    exact ⟨rfl, (Below.refl _ _).alloc (Nat.le_refl _) _⟩
  · clear hs
    go_enter Tryz.func93, Tryz.ntmps93
    go_wp2_with fail
    go_ret2
    exact ⟨rfl, (Below.refl _ _).alloc (Nat.le_refl _) _⟩
  · have h' : ¬ n < 0 := by omega
    clear hs
    go_enter Tryz.func93, Tryz.ntmps93
    go_wp2_with fail
    go_ret2
    exact ⟨rfl, (Below.refl _ _).alloc (Nat.le_refl _) _⟩
  · have HB : Hid (hasB len 0 u (8 * n) = false) := h2
    clear h2
    have hs2 := hs.grown (World.grownBy_alloc w (Obj.cells #[Value.pointer (some ⟨p, 0, none⟩)] 175) none) (by simp)
    go_enter Tryz.func93, Tryz.ntmps93
    go_wp2_with fail
    refine (has_any p ao len cap 0 u (8 * n) _ hs2 hl a0 a7 u0 u1 (by omega) (by omega)).mono ?_
    rintro e w' ⟨rfl, q, rfl⟩
    rw [HB.out]
    go_wp2_with fail
    go_ret2
    exact ⟨rfl, ((Below.refl _ _).alloc (Nat.le_refl _) _).trans (below_drewN' _ _ _)⟩

set_option maxHeartbeats 3200000 in
/-- (byteReader).bytes, Ok. -/
theorem bytes_yes (p : Nat) (ao : Option Addr) (cap : Nat) (zs : List Int) (u : Int) (n : Nat) (w : World) (hs : Src w p (.slice ao zs.length cap) 0 u) (hr : Row w ao zs) (hnil : ao = none → cap = 0) (hfit : zs.length ≤ cap) (hv : vld zs.length 0 u = true) (hnl : n ≤ zs.length) (hh : hasB zs.length 0 u (8 * n) = true) :
    Calls Tryz.prog 93 #[.agg #[.pointer (some ⟨p, 0, none⟩)], .int .i64 n] w fun e w' => ∃ bo bc, e = .returned (.tuple #[.slice bo n bc, .bool true]) ∧ Mine w.heap.size w' bo bc (zs.take n) ∧
      Src w' p (.slice (cutAt ao cap n) (zs.length - n) (cap - n)) 0 (u + 8 * n) ∧ w.grownBy w' (some p) := by
  obtain ⟨a0, a7, al, hl, u0, u1, um⟩ := vld_out hv
  have HB : Hid (hasB zs.length 0 u (8 * n) = true) := hh
  clear al um hv hh
  have hp : p < w.heap.size := World.block_lt_of_cell? w _ hs.1
  have hne : w.heap.size ≠ p := by omega
  have hal := World.grownBy_alloc w (Obj.cells #[Value.pointer (some ⟨p, 0, none⟩)] 175) none
  have hs2 := hs.grown hal (by simp)
  have hr2 := hr.grown hal (by simp)
  have hrt : Row (w.alloc (Obj.cells #[Value.pointer (some ⟨p, 0, none⟩)] 175)) ao (zs.take n) := by
    intro i hi
    rw [List.length_take] at hi
    obtain ⟨b, off, e, hc⟩ := hr2 i (by omega)
    refine ⟨b, off, e, ?_⟩
    rw [hc]
    simp [List.getD, show i < n by omega]
  have hlt : (zs.take n).length = n := by rw [List.length_take]; omega
  have hrd : (w.alloc (.cells #[.pointer (some ⟨p, 0, none⟩)] 175)).cell? ⟨w.heap.size, 0, none⟩ = some (.pointer (some ⟨p, 0, none⟩)) := by simp [go_sem]
  obtain ⟨c0, c1, c2, f0, f1, f2⟩ := hs
  generalize zs.take n = zt at *
  go_enter Tryz.func93, Tryz.ntmps93
  go_wp2_with fail
  refine (has_any p ao zs.length cap 0 u (8 * n) _ hs2 hl a0 a7 u0 u1 (by omega) (by omega)).mono ?_
  rintro e w' ⟨rfl, q, rfl⟩
  rw [HB.out]
  go_wp2_with fail
  have hcb := copyBytes_any ao cap zt ((w.alloc (.cells #[.pointer (some ⟨p, 0, none⟩)] 175)).drewN q) (hrt.drewN q) hnil (by omega)
  rw [hlt] at hcb
  refine hcb.mono ?_
  rintro e w3 ⟨bo, bc, rfl, hm3, hb3⟩
  have hs3 := (hs2.drewN q).grown (grownBy_of_below hb3 none) (by simp)
  have hrd3 : w3.cell? ⟨w.heap.size, 0, none⟩ = some (.pointer (some ⟨p, 0, none⟩)) := (grownBy_of_below hb3 none).cell (by exact hrd) (by simp)
  have hg3 : w.grownBy w3 (some p) := grownBy_trans (grownBy_trans (World.grownBy_alloc w _ _) (grownBy_of_below (below_drewN' _ _ _) _)) (grownBy_of_below hb3 _)
  have hbp : blk bo ≠ some p := hm3.far (by show p < (w.alloc _).heap.size; simp; omega)
  have hm3' := hm3.mono (B' := w.heap.size) (by show w.heap.size ≤ (w.alloc _).heap.size; simp)
  clear hr2 hs2 hrd hb3 hr hal hcb hrt hm3 c0 c1 c2 f0 f1 f2 hlt
  go_wp2_with fail
  refine (pass_any p ao zs.length cap 0 u (8 * n) _ hs3 hl a0 a7 u0 u1 (by omega) (by omega)).mono ?_
  rintro e w4 ⟨rfl, h1, h2, h3⟩
  rw [show (0 + 8 * (n : Int)) / 8 = (n : Int) by omega, show (0 + 8 * (n : Int)) % 8 = 0 by omega, Int.toNat_natCast] at h1
  have hm4 := hm3'.grown h2 (by intro k e; simp at e; subst e; exact hbp)
  go_wp2_with fail
  go_ret2
  exact ⟨bo, bc, rfl, hm4, h1, grownBy_trans hg3 h2⟩
end Go.Proofs.YtlfabilmilkboaaGreatDoor
