import Derived.Test.YtbddkkfakkedaaaGreatDoorProg
import Derived.WalkKit
import Derived.WalkSpells
import Derived.WalkLawsBesides
import Derived.Deep.QuietTactic
import Derived.BigQuiet
import Derived.Laws.Pointers
import Derived.Deep.RegionHeld3
import Derived.Deep.DrawnRows
import Derived.Test.YtbddkkfakkedaaaGreatDoorMAA
import Derived.Test.YtbddkkfakkedaaaGreatDoorMAB
namespace Go.Proofs.YtbddkkfakkedaaaGreatDoor
open Go.RowKit
attribute [local go_sem ↓] Go.wp_at_zero Go.wp_at_succ

theorem Tryz.info_u8s : (Tryz.prog.info? 5).map (fun i => (i.zero, i.size, i.bytes)) = some (some (.int .u8 0), 1, 1) := by kernel_rfl

/-- impl.copyBytes. -/
theorem copyBytes_owns (ao : Option Addr) (cap : Nat) (zs : List Int) (w : World) (hr : Row w ao zs) (hnil : ao = none → cap = 0) (hn : zs.length ≤ 140737488355328) :
    Calls Tryz.prog 151 #[.slice ao zs.length cap] w fun e w' => ∃ ao' cap', e = .returned (.slice ao' zs.length cap') ∧ OwnsB 5 w.heap.size w' ao' cap' zs ∧ Below w.heap.size w w' := by
  obtain ⟨i0, hi, hz0, hz1, hz2⟩ := info_parts Tryz.info_u8s
  have hnl : ao = none → zs.length = 0 ∧ cap = 0 := by
    intro e
    refine ⟨?_, hnil e⟩
    rcases Nat.eq_zero_or_pos zs.length with h | h
    · exact h
    · obtain ⟨b, off, e', _⟩ := hr 0 h
      rw [e] at e'; cases e'
  go_enter Tryz.func151, Tryz.ntmps151
  go_wp2_with (at_builtin; refine wpList_append_row _ rfl _ _ 22 rfl w.heap.size 5 i0 (.int .u8 0) 1 Tryz.underlying22 hi hz0 hz1 hz2 rfl (.slice none 0 0) 0 [] rfl (World.ownsRow_nil _ _ _ _) ao cap zs rfl hr hnl (by unfold maxLen; omega) (by omega) (Nat.le_refl _) ?_)
  intro v' w1 hown hgrow hat
  have hb : Below w.heap.size w w1 := below_of_grownBy hgrow
  obtain ⟨ao', cap', e, hm⟩ := OwnsB.of hown
  rw [e]
  clear hown hgrow hat hr hnl e
  go_wp2_with fail
  go_ret
  exact ⟨ao', cap', rfl, hm, hb⟩
theorem copyBytes_any (ao : Option Addr) (cap : Nat) (zs : List Int) (w : World) (hr : Row w ao zs) (hnil : ao = none → cap = 0) (hn : zs.length ≤ 140737488355328) :
    Calls Tryz.prog 151 #[.slice ao zs.length cap] w fun e w' => ∃ ao' cap', e = .returned (.slice ao' zs.length cap') ∧ Mine w.heap.size w' ao' cap' zs ∧ Below w.heap.size w w' :=
  (copyBytes_owns ao cap zs w hr hnil hn).mono fun _ _ ⟨x, y, h1, h2, h3⟩ => ⟨x, y, h1, h2.mine, h3⟩

/-- A source in memory: its three cells. -/
def Src (w : World) (p : Nat) (v : Value) (a u : Int) : Prop :=
  w.cell? ⟨p, 0, none⟩ = some v ∧ w.cell? ⟨p, 1, none⟩ = some (.int .i64 a) ∧ w.cell? ⟨p, 2, none⟩ = some (.int .i64 u) ∧
    w.frozen? ⟨p, 0, none⟩ = false ∧ w.frozen? ⟨p, 1, none⟩ = false ∧ w.frozen? ⟨p, 2, none⟩ = false

theorem src_new (w : World) (v : Value) (a u : Int) (t : TypeId) : Src (w.alloc (.cells #[v, .int .i64 a, .int .i64 u] t)) w.heap.size v a u := by
  simp [Src, go_sem]

set_option maxRecDepth 100000 in
set_option maxHeartbeats 3200000 in
/-- impl.openSource. -/
theorem openSource_owns (ao : Option Addr) (cap : Nat) (zs : List Int) (a u : Int) (w : World) (hr : Row w ao zs) (hnil : ao = none → cap = 0) (hn : zs.length ≤ 140737488355328) :
    Calls Tryz.prog 123 #[.agg #[.slice ao zs.length cap, .int .i64 a, .int .i64 u]] w fun e w' => ∃ p ao' cap', e = .returned (.pointer (some ⟨p, 0, none⟩)) ∧ Src w' p (.slice ao' zs.length cap') a u ∧ OwnsB 5 w.heap.size w' ao' cap' zs ∧ w.heap.size < p ∧ p < w'.heap.size ∧ blk ao' ≠ some p ∧ Below w.heap.size w w' := by
  go_enter Tryz.func123, Tryz.ntmps123
  go_wp2
  go_region_held3 (fun w' => w'.cell? ⟨w.heap.size, 0, none⟩ = some (.slice ao zs.length cap) ∧ w'.cell? ⟨w.heap.size, 1, none⟩ = some (.int .i64 a) ∧ w'.cell? ⟨w.heap.size, 2, none⟩ = some (.int .i64 u))
    (first | go_keep | (simp [*]))
    (first | (go_at_call 151; refine (copyBytes_owns ao cap zs _ (hr.below ?_) hnil hn).mono ?_; (exact ((Below.refl _ _).alloc (Nat.le_refl _) _).drew); rintro e w1 ⟨ao', cap', rfl, hm, hb⟩; obtain ⟨hc, hf⟩ := bcell hb))
  go_wp2_with fail
  go_ret
  have hz : w.heap.size + 1 ≤ w1.heap.size := by have := hb.size; simp at this; omega
  have hbl : Below w.heap.size w w1 := (((Below.refl w.heap.size w).alloc (Nat.le_refl _) _).drew).trans (hb.mono (by simp))
  refine ⟨w1.heap.size, ao', cap', by simp, src_new _ _ _ _ _, (hm.mono (by simp)).below ((Below.refl _ _).alloc (Nat.le_refl _) _), by omega, by simp, ?_, hbl.alloc (by omega) _⟩
  intro e
  cases ao' with
  | none => cases e
  | some ad =>
    have := (hm.mine.lies ad rfl).2.1
    simp [blk] at e
    omega

theorem openSource_any (ao : Option Addr) (cap : Nat) (zs : List Int) (a u : Int) (w : World) (hr : Row w ao zs) (hnil : ao = none → cap = 0) (hn : zs.length ≤ 140737488355328) :
    Calls Tryz.prog 123 #[.agg #[.slice ao zs.length cap, .int .i64 a, .int .i64 u]] w fun e w' => ∃ p ao' cap', e = .returned (.pointer (some ⟨p, 0, none⟩)) ∧ Src w' p (.slice ao' zs.length cap') a u ∧ Mine w.heap.size w' ao' cap' zs ∧ w.heap.size < p ∧ p < w'.heap.size ∧ blk ao' ≠ some p ∧ Below w.heap.size w w' :=
  (openSource_owns ao cap zs a u w hr hnil hn).mono fun _ _ ⟨p, x, y, h1, h2, h3, h4⟩ => ⟨p, x, y, h1, h2, h3.mine, h4⟩

theorem Src.drewN {w : World} {p : Nat} {v : Value} {a u : Int} (h : Src w p v a u) (k : Nat) : Src (w.drewN k) p v a u := h
theorem Src.grown {w w' : World} {row : Option Nat} {p : Nat} {v : Value} {a u : Int} (h : Src w p v a u) (hg : w.grownBy w' row) (hne : some p ≠ row) : Src w' p v a u := by
  obtain ⟨h1, h2, h3, h4, h5, h6⟩ := h
  have hp : p < w.heap.size := World.block_lt_of_cell? w _ h1
  have e := hg.block p hp hne
  refine ⟨(World.cell?_of_block (w := w) e).trans h1, (World.cell?_of_block (w := w) e).trans h2, (World.cell?_of_block (w := w) e).trans h3, ?_, ?_, ?_⟩
  · exact (World.frozen?_of_block (w := w) e).trans h4
  · exact (World.frozen?_of_block (w := w) e).trans h5
  · exact (World.frozen?_of_block (w := w) e).trans h6

/-- Whether n bits are there. -/
def hasB (len : Nat) (a u n : Int) : Bool := decide (n ≤ 8 * (len : Int) - a ∧ n ≤ 34359738368 - u)
theorem hasB_no {len : Nat} {a u n : Int} (h : ¬ n ≤ 8 * (len : Int) - a) : false = hasB len a u n := (decide_eq_false (by omega)).symm
theorem hasB_yes {len : Nat} {a u n : Int} (h : n ≤ 8 * (len : Int) - a) : decide (n ≤ 34359738368 - u) = hasB len a u n := by
  unfold hasB
  rw [Bool.eq_iff_iff]
  simp
  omega

set_option maxHeartbeats 3200000 in
/-- (*source).has. -/
theorem has_any (p : Nat) (ao : Option Addr) (len cap : Nat) (a u n : Int) (w : World) (hs : Src w p (.slice ao len cap) a u) (hl : len ≤ 1000000) (a0 : 0 ≤ a) (a7 : a ≤ 7) (u0 : 0 ≤ u) (u1 : u ≤ 34359738368) (n0 : 0 ≤ n) (n1 : n ≤ 8000000) :
    Calls Tryz.prog 132 #[.pointer (some ⟨p, 0, none⟩), .int .i64 n] w fun e w' => e = .returned (.bool (hasB len a u n)) ∧ ∃ q, w' = w.drewN q := by
  obtain ⟨c0, c1, c2, _, _, _⟩ := hs
  by_cases h : n ≤ 8 * (len : Int) - a
  · have HB : Hid (decide (n ≤ 34359738368 - u) = hasB len a u n) := hasB_yes h
    have hd : decide (n ≤ 8 * (len : Int) - a) = true := decide_eq_true h
    go_enter Tryz.func132, Tryz.ntmps132
    go_wp2
    go_quiet (fail)
    go_wp2
    go_ret
    exact ⟨retb HB.out, _, rfl⟩
  · have HB : Hid (false = hasB len a u n) := hasB_no h
    have hd : decide (n ≤ 8 * (len : Int) - a) = false := decide_eq_false h
    go_enter Tryz.func132, Tryz.ntmps132
    go_wp2
    go_quiet (fail)
    go_wp2
    go_ret
    exact ⟨retb HB.out, _, rfl⟩

/-- The address of a slice cut at its head. -/
def cutAt (ao : Option Addr) (cap k : Nat) : Option Addr := if cap = k then ao else ao.map (·.add k)

theorem Row.cut {w : World} {ao : Option Addr} {zs : List Int} (h : Row w ao zs) {cap k : Nat} (hc : zs.length ≤ cap) : Row w (cutAt ao cap k) (zs.drop k) := by
  intro i hi
  rw [List.length_drop] at hi
  obtain ⟨b, off, rfl, hcell⟩ := h (k + i) (by omega)
  unfold cutAt
  rw [if_neg (by omega)]
  refine ⟨b, off + k, by simp [Addr.add_lit], ?_⟩
  rw [Nat.add_assoc, hcell]
  simp [List.getD]

theorem src_set {w : World} {p : Nat} {v : Value} {a u : Int} (h : Src w p v a u) (v' : Value) (a' u' : Int) :
    Src (((w.setCell ⟨p, 0, none⟩ v').setCell ⟨p, 1, none⟩ (.int .i64 a')).setCell ⟨p, 2, none⟩ (.int .i64 u')) p v' a' u' ∧
      w.grownBy (((w.setCell ⟨p, 0, none⟩ v').setCell ⟨p, 1, none⟩ (.int .i64 a')).setCell ⟨p, 2, none⟩ (.int .i64 u')) (some p) ∧
      (((w.setCell ⟨p, 0, none⟩ v').setCell ⟨p, 1, none⟩ (.int .i64 a')).setCell ⟨p, 2, none⟩ (.int .i64 u')).heap.size = w.heap.size := by
  obtain ⟨c0, c1, c2, f0, f1, f2⟩ := h
  refine ⟨⟨?_, ?_, ?_, ?_, ?_, ?_⟩, ?_, by simp⟩
  · rw [World.cell?_setCell_other _ _ _ _ (by simp), World.cell?_setCell_other _ _ _ _ (by simp), World.cell?_setCell_same _ _ _ c0]
  · rw [World.cell?_setCell_other _ _ _ _ (by simp), World.cell?_setCell_same _ _ _ (u := .int .i64 a) (by rw [World.cell?_setCell_other _ _ _ _ (by simp)]; exact c1)]
  · rw [World.cell?_setCell_same _ _ _ (u := .int .i64 u) (by rw [World.cell?_setCell_other _ _ _ _ (by simp), World.cell?_setCell_other _ _ _ _ (by simp)]; exact c2)]
  · simp [World.frozen?_setCell, f0]
  · simp [World.frozen?_setCell, f1]
  · simp [World.frozen?_setCell, f2]
  · exact grownBy_trans (grownBy_trans (grownBy_setCell w ⟨p, 0, none⟩ _) (grownBy_setCell _ ⟨p, 1, none⟩ _)) (grownBy_setCell _ ⟨p, 2, none⟩ _)

set_option maxHeartbeats 3200000 in
/-- (*source).pass. -/
theorem pass_any (p : Nat) (ao : Option Addr) (len cap : Nat) (a u n : Int) (w : World) (hs : Src w p (.slice ao len cap) a u) (hl : len ≤ 1000000) (a0 : 0 ≤ a) (a7 : a ≤ 7) (u0 : 0 ≤ u) (u1 : u ≤ 34359738368) (n0 : 0 ≤ n) (n1 : a + n ≤ 8 * (len : Int)) :
    Calls Tryz.prog 133 #[.pointer (some ⟨p, 0, none⟩), .int .i64 n] w fun e w' => e = .returned (.tuple #[]) ∧
      Src w' p (.slice (cutAt ao cap ((a + n) / 8).toNat) (len - ((a + n) / 8).toNat) (cap - ((a + n) / 8).toNat)) ((a + n) % 8) (u + n) ∧ w.grownBy w' (some p) ∧ w'.heap.size = w.heap.size := by
  obtain ⟨c0, c1, c2, f0, f1, f2⟩ := hs
  obtain ⟨k, hk⟩ : ∃ k : Nat, (a + n) / 8 = (k : Int) := ⟨((a + n) / 8).toNat, by omega⟩
  go_enter Tryz.func133, Tryz.ntmps133
  go_wp2
  · go_end0
    refine ⟨rfl, ?_⟩
    have hc : cutAt ao k k = ao := if_pos rfl
    rw [hc]
    exact src_set ⟨c0, c1, c2, f0, f1, f2⟩ _ _ _
  · go_end0
    refine ⟨rfl, ?_⟩
    have hc : cutAt ao cap k = ao.map (·.add k) := if_neg (by assumption)
    rw [hc]
    exact src_set ⟨c0, c1, c2, f0, f1, f2⟩ _ _ _

/-- Mine, cut at its head. -/
theorem Mine.cut {B : Nat} {w : World} {ao : Option Addr} {cap : Nat} {zs : List Int} (h : Mine B w ao cap zs) (k : Nat) (hk : k ≤ zs.length) : Mine B w (cutAt ao cap k) (cap - k) (zs.drop k) := by
  have hf := h.fits
  refine ⟨by rw [List.length_drop]; omega, by have := h.most; omega, h.row.cut hf, ?_, ?_, ?_⟩
  · intro ad e i hi
    rw [List.length_drop] at hi
    unfold cutAt at e
    rw [if_neg (by omega)] at e
    cases ao with
    | none => cases e
    | some x =>
      simp only [Option.map_some, Option.some.injEq] at e
      subst e
      obtain ⟨b, off, sp⟩ := x
      have hsp := (h.lies _ rfl).2.2
      simp only at hsp
      subst hsp
      have := h.free ⟨b, off, none⟩ rfl (k + i) (by omega)
      rw [Addr.add_lit, Nat.add_assoc]
      exact this
  · intro ad e
    unfold cutAt at e
    split at e
    · exact h.lies ad e
    · cases ao with
      | none => cases e
      | some x =>
        simp only [Option.map_some, Option.some.injEq] at e
        subst e
        obtain ⟨b, off, sp⟩ := x
        have hl := h.lies _ rfl
        obtain ⟨h1, h2, h3⟩ := hl
        simp only at h3
        subst h3
        rw [Addr.add_lit]
        exact ⟨h1, h2, rfl⟩
  · intro e
    unfold cutAt at e
    split at e
    · omega
    · cases ao with
      | none => have := h.bare rfl; omega
      | some x => simp at e
theorem blk_cut (ao : Option Addr) (cap k : Nat) (h : ∀ ad, ao = some ad → ad.spot = none) : blk (cutAt ao cap k) = blk ao := by
  unfold cutAt
  split
  · rfl
  · cases ao with
    | none => rfl
    | some x =>
      obtain ⟨b, off, sp⟩ := x
      have := h _ rfl
      simp only at this
      subst this
      simp [blk, Addr.add_lit]
theorem Mine.nothing (B : Nat) (w : World) : Mine B w none 0 [] :=
  ⟨Nat.le_refl _, Nat.zero_le _, Row.nil _ _, (fun _ e => by cases e), (fun _ e => by cases e), fun _ => rfl⟩

/-- What a function that gives a reader back has left. -/
def ResB (B : Nat) (w : World) (e : Ending) (zs : List Int) (a u : Int) : Prop :=
  ∃ ao cap, e = .returned (.agg #[.slice ao zs.length cap, .int .i64 a, .int .i64 u]) ∧ Mine B w ao cap zs
def ResO (B : Nat) (w : World) (e : Ending) (zs : List Int) (a u : Int) : Prop :=
  ∃ ao cap, e = .returned (.agg #[.slice ao zs.length cap, .int .i64 a, .int .i64 u]) ∧ OwnsB 5 B w ao cap zs
theorem ResO.res {B : Nat} {w : World} {e : Ending} {zs : List Int} {a u : Int} (h : ResO B w e zs a u) : ResB B w e zs a u := by
  obtain ⟨x, y, h1, h2⟩ := h
  exact ⟨x, y, h1, h2.mine⟩
end Go.Proofs.YtbddkkfakkedaaaGreatDoor
namespace Go.Proofs.YtbddkkfakkedaaaGreatDoor
open Go.RowKit
attribute [local go_sem ↓] Go.wp_at_zero Go.wp_at_succ

/-- How many bits are left in the byte. -/
def restA (a : Int) : Int := (8 - a) % 8
def cutA (a : Int) : Nat := if a = 0 then 0 else 1

theorem src_alloc {w : World} {p : Nat} {v : Value} {a u : Int} (h : Src w p v a u) (o : Obj) : Src (w.alloc o) p v a u :=
  h.grown (World.grownBy_alloc w o none) (by simp)

set_option maxHeartbeats 3200000 in
/-- (bitReader).align. -/
theorem align_any (p : Nat) (ao : Option Addr) (len cap : Nat) (a u : Int) (w : World) (hs : Src w p (.slice ao len cap) a u) (hv : vld len a u = true) :
    Calls Tryz.prog 88 #[.agg #[.pointer (some ⟨p, 0, none⟩)]] w fun e w' => e = .returned (.tuple #[]) ∧
      Src w' p (.slice (cutAt ao cap (cutA a)) (len - cutA a) (cap - cutA a)) 0 (u + restA a) ∧ w.grownBy w' (some p) := by
  obtain ⟨a0, a7, al, hl, u0, u1, um⟩ := vld_out hv
  have hp : p < w.heap.size := World.block_lt_of_cell? w _ hs.1
  have hne : w.heap.size ≠ p := by omega
  have hs' := hs
  obtain ⟨c0, c1, c2, f0, f1, f2⟩ := hs'
  by_cases hz : a = 0
  · subst hz
    have HB : Hid (hasB len 0 u 0 = true) := decide_eq_true (by omega)
    have HU : Hid (u + restA 0 = u + 0) := rfl
    have HC : Hid (cutA 0 = 0) := rfl
    clear hv al um a0 a7
    have hs2 := src_alloc hs (Obj.cells #[Value.pointer (some ⟨p, 0, none⟩)] 60)
    go_enter Tryz.func88, Tryz.ntmps88
    go_wp2_with fail
    refine (has_any p ao len cap 0 u 0 _ hs2 hl (by omega) (by omega) u0 u1 (by omega) (by omega)).mono ?_
    rintro e w' ⟨rfl, q, rfl⟩
    rw [HB.out]
    go_wp2_with fail
    refine (pass_any p ao len cap 0 u 0 _ (hs2.drewN q) hl (by omega) (by omega) u0 u1 (by omega) (by omega)).mono ?_
    rintro e w' ⟨rfl, h1, h2, h3⟩
    go_wp2_with fail
    go_end0
    refine ⟨rfl, ?_, ?_⟩
    · rw [HU.out, HC.out]; exact h1
    · exact grownBy_trans (grownBy_trans (World.grownBy_alloc w _ _) (grownBy_of_below (below_drewN' _ _ _) _)) h2
  · have hr : (8 - a) % 8 = 8 - a := by omega
    have hr' : -a % 8 = 8 - a := by omega
    have hln : 0 < len := by omega
    have HB : Hid (hasB len a u (8 - a) = true) := decide_eq_true (by omega)
    have HU : Hid (u + restA a = u + (8 - a)) := by show u + restA a = u + (8 - a); unfold restA; rw [hr]
    have HC : Hid (cutA a = 1) := if_neg hz
    have hs2 := src_alloc hs (Obj.cells #[Value.pointer (some ⟨p, 0, none⟩)] 60)
    clear hv al um
    go_enter Tryz.func88, Tryz.ntmps88
    go_wp2_with fail
    refine (has_any p ao len cap a u (8 - a) _ hs2 hl (by omega) (by omega) u0 u1 (by omega) (by omega)).mono ?_
    rintro e w' ⟨rfl, q, rfl⟩
    rw [HB.out]
    go_wp2_with fail
    refine (pass_any p ao len cap a u (8 - a) _ (hs2.drewN q) hl (by omega) (by omega) u0 u1 (by omega) (by omega)).mono ?_
    rintro e w' ⟨rfl, h1, h2, h3⟩
    rw [show (a + (8 - a)) / 8 = 1 by omega, show (a + (8 - a)) % 8 = 0 by omega] at h1
    go_wp2_with fail
    go_end0
    refine ⟨rfl, ?_, ?_⟩
    · rw [HU.out, HC.out]; exact h1
    · exact grownBy_trans (grownBy_trans (World.grownBy_alloc w _ _) (grownBy_of_below (below_drewN' _ _ _) _)) h2
end Go.Proofs.YtbddkkfakkedaaaGreatDoor
namespace Go.Proofs.YtbddkkfakkedaaaGreatDoor
open Go.RowKit
attribute [local go_sem ↓] Go.wp_at_zero Go.wp_at_succ

set_option maxHeartbeats 3200000 in
/-- (byteReader).bytes, where it is not Ok. -/
theorem bytes_no (p : Nat) (ao : Option Addr) (len cap : Nat) (a u n : Int) (w : World) (hs : Src w p (.slice ao len cap) a u) (hv : vld len a u = true) (hno : a ≠ 0 ∨ (a = 0 ∧ n < 0) ∨ (a = 0 ∧ 0 ≤ n ∧ (len : Int) < n) ∨ (a = 0 ∧ 0 ≤ n ∧ n ≤ len ∧ hasB len 0 u (8 * n) = false)) :
    Calls Tryz.prog 173 #[.agg #[.pointer (some ⟨p, 0, none⟩)], .int .i64 n] w fun e w' => e = .returned (.tuple #[.slice none 0 0, .bool false]) ∧ Below w.heap.size w w' := by
  obtain ⟨a0, a7, al, hl, u0, u1, um⟩ := vld_out hv
  clear al um hv
  have hp : p < w.heap.size := World.block_lt_of_cell? w _ hs.1
  have hne : w.heap.size ≠ p := by omega
  have hs' := hs
  obtain ⟨c0, c1, c2, f0, f1, f2⟩ := hs'
  rcases hno with h | ⟨rfl, h⟩ | ⟨rfl, h0, h⟩ | ⟨rfl, h0, h1, h2⟩
  · have hb : (a != 0) = true := by simpa using h
    clear hs h
    go_enter Tryz.func173, Tryz.ntmps173
    go_wp2_with fail
    go_ret2
    exact ⟨rfl, (Below.refl _ _).alloc (Nat.le_refl _) _⟩
  · clear hs
    go_enter Tryz.func173, Tryz.ntmps173
    go_wp2_with fail
    go_ret2
    exact ⟨rfl, (Below.refl _ _).alloc (Nat.le_refl _) _⟩
  · have h' : ¬ n < 0 := by omega
    clear hs
    go_enter Tryz.func173, Tryz.ntmps173
    go_wp2_with fail
    go_ret2
    exact ⟨rfl, (Below.refl _ _).alloc (Nat.le_refl _) _⟩
  · have HB : Hid (hasB len 0 u (8 * n) = false) := h2
    clear h2
    have hs2 := hs.grown (World.grownBy_alloc w (Obj.cells #[Value.pointer (some ⟨p, 0, none⟩)] 253) none) (by simp)
    go_enter Tryz.func173, Tryz.ntmps173
    go_wp2_with fail
    refine (has_any p ao len cap 0 u (8 * n) _ hs2 hl a0 a7 u0 u1 (by omega) (by omega)).mono ?_
    rintro e w' ⟨rfl, q, rfl⟩
    rw [HB.out]
    go_wp2_with fail
    go_ret2
    exact ⟨rfl, ((Below.refl _ _).alloc (Nat.le_refl _) _).trans (below_drewN' _ _ _)⟩

set_option maxHeartbeats 3200000 in
/-- (byteReader).bytes, Ok. -/
theorem bytes_yes (p : Nat) (ao : Option Addr) (cap : Nat) (zs : List Int) (u : Int) (n : Nat) (w : World) (hs : Src w p (.slice ao zs.length cap) 0 u) (hr : Row w ao zs) (hnil : ao = none → cap = 0) (hfit : zs.length ≤ cap) (hv : vld zs.length 0 u = true) (hnl : n ≤ zs.length) (hh : hasB zs.length 0 u (8 * n) = true) :
    Calls Tryz.prog 173 #[.agg #[.pointer (some ⟨p, 0, none⟩)], .int .i64 n] w fun e w' => ∃ bo bc, e = .returned (.tuple #[.slice bo n bc, .bool true]) ∧ Mine w.heap.size w' bo bc (zs.take n) ∧
      Src w' p (.slice (cutAt ao cap n) (zs.length - n) (cap - n)) 0 (u + 8 * n) ∧ w.grownBy w' (some p) := by
  obtain ⟨a0, a7, al, hl, u0, u1, um⟩ := vld_out hv
  have HB : Hid (hasB zs.length 0 u (8 * n) = true) := hh
  clear al um hv hh
  have hp : p < w.heap.size := World.block_lt_of_cell? w _ hs.1
  have hne : w.heap.size ≠ p := by omega
  have hal := World.grownBy_alloc w (Obj.cells #[Value.pointer (some ⟨p, 0, none⟩)] 253) none
  have hs2 := hs.grown hal (by simp)
  have hr2 := hr.grown hal (by simp)
  have hrt : Row (w.alloc (Obj.cells #[Value.pointer (some ⟨p, 0, none⟩)] 253)) ao (zs.take n) := by
    intro i hi
    rw [List.length_take] at hi
    obtain ⟨b, off, e, hc⟩ := hr2 i (by omega)
    refine ⟨b, off, e, ?_⟩
    rw [hc]
    simp [List.getD, show i < n by omega]
  have hlt : (zs.take n).length = n := by rw [List.length_take]; omega
  have hrd : (w.alloc (.cells #[.pointer (some ⟨p, 0, none⟩)] 253)).cell? ⟨w.heap.size, 0, none⟩ = some (.pointer (some ⟨p, 0, none⟩)) := by simp [go_sem]
  obtain ⟨c0, c1, c2, f0, f1, f2⟩ := hs
  generalize zs.take n = zt at *
  go_enter Tryz.func173, Tryz.ntmps173
  go_wp2_with fail
  refine (has_any p ao zs.length cap 0 u (8 * n) _ hs2 hl a0 a7 u0 u1 (by omega) (by omega)).mono ?_
  rintro e w' ⟨rfl, q, rfl⟩
  rw [HB.out]
  go_wp2_with fail
  have hcb := copyBytes_any ao cap zt ((w.alloc (.cells #[.pointer (some ⟨p, 0, none⟩)] 253)).drewN q) (hrt.drewN q) hnil (by omega)
  rw [hlt] at hcb
  refine hcb.mono ?_
  rintro e w3 ⟨bo, bc, rfl, hm3, hb3⟩
  have hs3 := (hs2.drewN q).grown (grownBy_of_below hb3 none) (by simp)
  have hrd3 : w3.cell? ⟨w.heap.size, 0, none⟩ = some (.pointer (some ⟨p, 0, none⟩)) := (grownBy_of_below hb3 none).cell (by exact hrd) (by simp)
  have hg3 : w.grownBy w3 (some p) := grownBy_trans (grownBy_trans (World.grownBy_alloc w _ _) (grownBy_of_below (below_drewN' _ _ _) _)) (grownBy_of_below hb3 _)
  have hbp : blk bo ≠ some p := hm3.far (by show p < (w.alloc _).heap.size; simp; omega)
  have hm3' := hm3.mono (B' := w.heap.size) (by show w.heap.size ≤ (w.alloc _).heap.size; simp)
  clear hr2 hs2 hrd hb3 hr hal hcb hrt hm3 c0 c1 c2 f0 f1 f2 hlt
  go_wp2_with fail
  refine (pass_any p ao zs.length cap 0 u (8 * n) _ hs3 hl a0 a7 u0 u1 (by omega) (by omega)).mono ?_
  rintro e w4 ⟨rfl, h1, h2, h3⟩
  rw [show (0 + 8 * (n : Int)) / 8 = (n : Int) by omega, show (0 + 8 * (n : Int)) % 8 = 0 by omega, Int.toNat_natCast] at h1
  have hm4 := hm3'.grown h2 (by intro k e; simp at e; subst e; exact hbp)
  go_wp2_with fail
  go_ret2
  exact ⟨bo, bc, rfl, hm4, h1, grownBy_trans hg3 h2⟩
end Go.Proofs.YtbddkkfakkedaaaGreatDoor
namespace Go.Proofs.YtbddkkfakkedaaaGreatDoor
open Go.RowKit
attribute [local go_sem ↓] Go.wp_at_zero Go.wp_at_succ

/-! What BitsFeed makes of a reader. -/
def fdZ (zs cs : List Int) (a u : Int) : List Int := if vld zs.length a u then (if zs.length + cs.length ≤ 1000000 then zs ++ cs else zs) else []
def fdA (zs : List Int) (a u : Int) : Int := if vld zs.length a u then a else 0
def fdU (zs : List Int) (a u : Int) : Int := if vld zs.length a u then u else 0
theorem fdZ_len (zs cs : List Int) (a u : Int) : (fdZ zs cs a u).length ≤ zs.length + cs.length := by
  unfold fdZ
  split
  · split
    · simp
    · omega
  · simp

theorem resB_nil (B : Nat) (w : World) : ResB B w (.returned (.agg #[.slice none 0 0, .int .i64 0, .int .i64 0])) [] 0 0 := ⟨none, 0, rfl, Mine.nothing _ _⟩

theorem src_set0 {w : World} {p : Nat} {v : Value} {a u : Int} (h : Src w p v a u) (v' : Value) :
    Src (w.setCell ⟨p, 0, none⟩ v') p v' a u ∧ w.grownBy (w.setCell ⟨p, 0, none⟩ v') (some p) ∧ (w.setCell ⟨p, 0, none⟩ v').heap.size = w.heap.size := by
  obtain ⟨c0, c1, c2, f0, f1, f2⟩ := h
  refine ⟨⟨?_, ?_, ?_, ?_, ?_, ?_⟩, grownBy_setCell w ⟨p, 0, none⟩ _, by simp⟩
  · exact World.cell?_setCell_same _ _ _ c0
  · rw [World.cell?_setCell_other _ _ _ _ (by simp)]; exact c1
  · rw [World.cell?_setCell_other _ _ _ _ (by simp)]; exact c2
  · simp [World.frozen?_setCell, f0]
  · simp [World.frozen?_setCell, f1]
  · simp [World.frozen?_setCell, f2]

set_option maxHeartbeats 3200000 in
/-- (*source).feed. -/
theorem feed_any (p : Nat) (ao co : Option Addr) (cap cc : Nat) (zs cs : List Int) (a u : Int) (B : Nat) (w : World) (hs : Src w p (.slice ao zs.length cap) a u) (ho : OwnsB 5 B w ao cap zs) (hB : B ≤ w.heap.size) (hpb : blk ao ≠ some p) (hr : Row w co cs) (hnil : co = none → cs.length = 0 ∧ cc = 0)
    (hl : zs.length ≤ 1000000) (hc : cs.length ≤ 140737488355328) :
    Calls Tryz.prog 24 #[.pointer (some ⟨p, 0, none⟩), .slice co cs.length cc] w fun e w' => e = .returned (.tuple #[]) ∧ ∃ ao' cap',
      Src w' p (.slice ao' (if zs.length + cs.length ≤ 1000000 then zs ++ cs else zs).length cap') a u ∧ Mine B w' ao' cap' (if zs.length + cs.length ≤ 1000000 then zs ++ cs else zs) ∧
      ∃ wm, w.grownBy wm (blk ao) ∧ wm.grownBy w' (some p) := by
  obtain ⟨i0, hi, hz0, hz1, hz2⟩ := info_parts Tryz.info_u8s
  have HN : Hid (co = none → cs.length = 0 ∧ cc = 0) := hnil
  clear hnil
  have hp : p < w.heap.size := World.block_lt_of_cell? w _ hs.1
  by_cases h : zs.length + cs.length ≤ 1000000
  · rw [if_pos h]
    have hd : decide ((zs.length : Int) + (cs.length : Int) ≤ 1000000) = true := decide_eq_true (by omega)
    have hs' := hs
    obtain ⟨c0, c1, c2, f0, f1, f2⟩ := hs'
    go_enter Tryz.func24, Tryz.ntmps24
    go_wp2_with (at_builtin; refine wpList_append_row _ rfl _ _ 22 rfl B 5 i0 (.int .u8 0) 1 Tryz.underlying22 hi hz0 hz1 hz2 rfl (.slice ao zs.length cap) zs.length (zs.map (Value.int .u8)) rfl ho co cc cs rfl hr HN.out (by unfold maxLen; omega) (by omega) hB ?_)
    intro v' w1 hown hgrow hat
    rw [← List.map_append] at hown
    obtain ⟨ao', cap', e', ho'⟩ := OwnsB.of hown
    subst e'
    have hg : w.grownBy w1 (blk ao) := by
      have : (Value.slice ao zs.length cap).ownBlock = blk ao := by cases ao <;> rfl
      rw [this] at hgrow
      exact hgrow
    have hs1 := hs.grown hg (fun e => hpb e.symm)
    obtain ⟨k1, k2, k3⟩ := src_set0 hs1 (.slice ao' (zs ++ cs).length cap')
    have hm := ho'.mine.grown k2 (by
      intro k e; simp at e; subst e
      intro hb
      have hown' : (Value.slice ao' (zs ++ cs).length cap').ownBlock = blk ao' := by cases ao' <;> rfl
      have hown2 : (Value.slice ao zs.length cap).ownBlock = blk ao := by cases ao <;> rfl
      rw [hown', hown2] at hat
      rcases hat with h1 | h1
      · rw [h1] at hb; exact hpb hb
      · rw [h1] at hb; simp at hb; omega)
    obtain ⟨y0, y1, y2, e0, e1, e2⟩ := hs1
    clear hown hgrow hat ho ho' k3 hr hs c0 c1 c2 f0 f1 f2
    generalize hzc : zs ++ cs = zc at *
    have HZC : Hid (zs ++ cs = zc) := hzc
    clear hzc
    go_wp2_with fail
    go_end0
    refine ⟨rfl, ao', cap', ?_⟩
    rw [HZC.out]
    exact ⟨k1, hm, w1, hg, k2⟩
  · rw [if_neg h]
    have hd : decide ((zs.length : Int) + (cs.length : Int) ≤ 1000000) = false := decide_eq_false (by omega)
    have hs' := hs
    obtain ⟨c0, c1, c2, f0, f1, f2⟩ := hs'
    have hm := ho.mine
    clear ho hr
    go_enter Tryz.func24, Tryz.ntmps24
    go_wp2_with fail
    go_end0
    exact ⟨rfl, ao, cap, hs, hm, w, World.grownBy.refl _ _, World.grownBy.refl _ _⟩

end Go.Proofs.YtbddkkfakkedaaaGreatDoor
