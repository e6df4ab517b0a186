import Derived.Test.YtjknaigdlkpiaaaProg
import Derived.Test.YtjknaigdlkpiaaaOwn
import Derived.WalkKit
import Derived.WalkSpells
import Derived.WalkLawsBesides
import Derived.Deep.QuietTactic
import Derived.BigQuiet
import Derived.Laws.Pointers
import Derived.Deep.RegionHeld3
import Derived.Deep.DrawnRows
namespace Go.Proofs.Ytjknaigdlkpiaaa
open Go.RowKit
attribute [local go_sem ↓] Go.wp_at_zero Go.wp_at_succ

theorem Try.info_u8s : (Try.prog.info? 5).map (fun i => (i.zero, i.size, i.bytes)) = some (some (.int .u8 0), 1, 1) := by kernel_rfl

/-- impl.copyBytes. -/
theorem copyBytes_owns (ao : Option Addr) (cap : Nat) (zs : List Int) (w : World) (hr : Row w ao zs) (hnil : ao = none → cap = 0) (hn : zs.length ≤ 140737488355328) :
    Calls Try.prog 67 #[.slice ao zs.length cap] w fun e w' => ∃ ao' cap', e = .returned (.slice ao' zs.length cap') ∧ OwnsB 5 w.heap.size w' ao' cap' zs ∧ Below w.heap.size w w' := by
  obtain ⟨i0, hi, hz0, hz1, hz2⟩ := info_parts Try.info_u8s
  have hnl : ao = none → zs.length = 0 ∧ cap = 0 := by
    intro e
    refine ⟨?_, hnil e⟩
    rcases Nat.eq_zero_or_pos zs.length with h | h
    · exact h
    · obtain ⟨b, off, e', _⟩ := hr 0 h
      rw [e] at e'; cases e'
  go_enter Try.func67, Try.ntmps67
  go_wp2_with (at_builtin; refine wpList_append_row _ rfl _ _ 22 rfl w.heap.size 5 i0 (.int .u8 0) 1 Try.underlying22 hi hz0 hz1 hz2 rfl (.slice none 0 0) 0 [] rfl (World.ownsRow_nil _ _ _ _) ao cap zs rfl hr hnl (by unfold maxLen; omega) (by omega) (Nat.le_refl _) ?_)
  intro v' w1 hown hgrow hat
  have hb : Below w.heap.size w w1 := below_of_grownBy hgrow
  obtain ⟨ao', cap', e, hm⟩ := OwnsB.of hown
  rw [e]
  clear hown hgrow hat hr hnl e
  go_wp2_with fail
  go_ret
  exact ⟨ao', cap', rfl, hm, hb⟩
theorem copyBytes_any (ao : Option Addr) (cap : Nat) (zs : List Int) (w : World) (hr : Row w ao zs) (hnil : ao = none → cap = 0) (hn : zs.length ≤ 140737488355328) :
    Calls Try.prog 67 #[.slice ao zs.length cap] w fun e w' => ∃ ao' cap', e = .returned (.slice ao' zs.length cap') ∧ Mine w.heap.size w' ao' cap' zs ∧ Below w.heap.size w w' :=
  (copyBytes_owns ao cap zs w hr hnil hn).mono fun _ _ ⟨x, y, h1, h2, h3⟩ => ⟨x, y, h1, h2.mine, h3⟩

/-- A source in memory: its three cells. -/
def Src (w : World) (p : Nat) (v : Value) (a u : Int) : Prop :=
  w.cell? ⟨p, 0, none⟩ = some v ∧ w.cell? ⟨p, 1, none⟩ = some (.int .i64 a) ∧ w.cell? ⟨p, 2, none⟩ = some (.int .i64 u) ∧
    w.frozen? ⟨p, 0, none⟩ = false ∧ w.frozen? ⟨p, 1, none⟩ = false ∧ w.frozen? ⟨p, 2, none⟩ = false

theorem src_new (w : World) (v : Value) (a u : Int) (t : TypeId) : Src (w.alloc (.cells #[v, .int .i64 a, .int .i64 u] t)) w.heap.size v a u := by
  simp [Src, go_sem]

theorem Src.drewN {w : World} {p : Nat} {v : Value} {a u : Int} (h : Src w p v a u) (k : Nat) : Src (w.drewN k) p v a u := h
theorem Src.grown {w w' : World} {row : Option Nat} {p : Nat} {v : Value} {a u : Int} (h : Src w p v a u) (hg : w.grownBy w' row) (hne : some p ≠ row) : Src w' p v a u := by
  obtain ⟨h1, h2, h3, h4, h5, h6⟩ := h
  have hp : p < w.heap.size := World.block_lt_of_cell? w _ h1
  have e := hg.block p hp hne
  refine ⟨(World.cell?_of_block (w := w) e).trans h1, (World.cell?_of_block (w := w) e).trans h2, (World.cell?_of_block (w := w) e).trans h3, ?_, ?_, ?_⟩
  · exact (World.frozen?_of_block (w := w) e).trans h4
  · exact (World.frozen?_of_block (w := w) e).trans h5
  · exact (World.frozen?_of_block (w := w) e).trans h6

/-- Whether n bits are there. -/
def hasB (len : Nat) (a u n : Int) : Bool := decide (n ≤ 8 * (len : Int) - a ∧ n ≤ 34359738368 - u)
theorem hasB_no {len : Nat} {a u n : Int} (h : ¬ n ≤ 8 * (len : Int) - a) : false = hasB len a u n := (decide_eq_false (by omega)).symm
theorem hasB_yes {len : Nat} {a u n : Int} (h : n ≤ 8 * (len : Int) - a) : decide (n ≤ 34359738368 - u) = hasB len a u n := by
  unfold hasB
  rw [Bool.eq_iff_iff]
  simp
  omega

/-- The address of a slice cut at its head. -/
def cutAt (ao : Option Addr) (cap k : Nat) : Option Addr := if cap = k then ao else ao.map (·.add k)

theorem Row.cut {w : World} {ao : Option Addr} {zs : List Int} (h : Row w ao zs) {cap k : Nat} (hc : zs.length ≤ cap) : Row w (cutAt ao cap k) (zs.drop k) := by
  intro i hi
  rw [List.length_drop] at hi
  obtain ⟨b, off, rfl, hcell⟩ := h (k + i) (by omega)
  unfold cutAt
  rw [if_neg (by omega)]
  refine ⟨b, off + k, by simp [Addr.add_lit], ?_⟩
  rw [Nat.add_assoc, hcell]
  simp [List.getD]

theorem src_set {w : World} {p : Nat} {v : Value} {a u : Int} (h : Src w p v a u) (v' : Value) (a' u' : Int) :
    Src (((w.setCell ⟨p, 0, none⟩ v').setCell ⟨p, 1, none⟩ (.int .i64 a')).setCell ⟨p, 2, none⟩ (.int .i64 u')) p v' a' u' ∧
      w.grownBy (((w.setCell ⟨p, 0, none⟩ v').setCell ⟨p, 1, none⟩ (.int .i64 a')).setCell ⟨p, 2, none⟩ (.int .i64 u')) (some p) ∧
      (((w.setCell ⟨p, 0, none⟩ v').setCell ⟨p, 1, none⟩ (.int .i64 a')).setCell ⟨p, 2, none⟩ (.int .i64 u')).heap.size = w.heap.size := by
  obtain ⟨c0, c1, c2, f0, f1, f2⟩ := h
  refine ⟨⟨?_, ?_, ?_, ?_, ?_, ?_⟩, ?_, by simp⟩
  · rw [World.cell?_setCell_other _ _ _ _ (by simp), World.cell?_setCell_other _ _ _ _ (by simp), World.cell?_setCell_same _ _ _ c0]
  · rw [World.cell?_setCell_other _ _ _ _ (by simp), World.cell?_setCell_same _ _ _ (u := .int .i64 a) (by rw [World.cell?_setCell_other _ _ _ _ (by simp)]; exact c1)]
  · rw [World.cell?_setCell_same _ _ _ (u := .int .i64 u) (by rw [World.cell?_setCell_other _ _ _ _ (by simp), World.cell?_setCell_other _ _ _ _ (by simp)]; exact c2)]
  · simp [World.frozen?_setCell, f0]
  · simp [World.frozen?_setCell, f1]
  · simp [World.frozen?_setCell, f2]
  · exact grownBy_trans (grownBy_trans (grownBy_setCell w ⟨p, 0, none⟩ _) (grownBy_setCell _ ⟨p, 1, none⟩ _)) (grownBy_setCell _ ⟨p, 2, none⟩ _)

/-- Mine, cut at its head. -/
theorem Mine.cut {B : Nat} {w : World} {ao : Option Addr} {cap : Nat} {zs : List Int} (h : Mine B w ao cap zs) (k : Nat) (hk : k ≤ zs.length) : Mine B w (cutAt ao cap k) (cap - k) (zs.drop k) := by
  have hf := h.fits
  refine ⟨by rw [List.length_drop]; omega, by have := h.most; omega, h.row.cut hf, ?_, ?_, ?_⟩
  · intro ad e i hi
    rw [List.length_drop] at hi
    unfold cutAt at e
    rw [if_neg (by omega)] at e
    cases ao with
    | none => cases e
    | some x =>
      simp only [Option.map_some, Option.some.injEq] at e
      subst e
      obtain ⟨b, off, sp⟩ := x
      have hsp := (h.lies _ rfl).2.2
      simp only at hsp
      subst hsp
      have := h.free ⟨b, off, none⟩ rfl (k + i) (by omega)
      rw [Addr.add_lit, Nat.add_assoc]
      exact this
  · intro ad e
    unfold cutAt at e
    split at e
    · exact h.lies ad e
    · cases ao with
      | none => cases e
      | some x =>
        simp only [Option.map_some, Option.some.injEq] at e
        subst e
        obtain ⟨b, off, sp⟩ := x
        have hl := h.lies _ rfl
        obtain ⟨h1, h2, h3⟩ := hl
        simp only at h3
        subst h3
        rw [Addr.add_lit]
        exact ⟨h1, h2, rfl⟩
  · intro e
    unfold cutAt at e
    split at e
    · omega
    · cases ao with
      | none => have := h.bare rfl; omega
      | some x => simp at e
theorem blk_cut (ao : Option Addr) (cap k : Nat) (h : ∀ ad, ao = some ad → ad.spot = none) : blk (cutAt ao cap k) = blk ao := by
  unfold cutAt
  split
  · rfl
  · cases ao with
    | none => rfl
    | some x =>
      obtain ⟨b, off, sp⟩ := x
      have := h _ rfl
      simp only at this
      subst this
      simp [blk, Addr.add_lit]
theorem Mine.nothing (B : Nat) (w : World) : Mine B w none 0 [] :=
  ⟨Nat.le_refl _, Nat.zero_le _, Row.nil _ _, (fun _ e => by cases e), (fun _ e => by cases e), fun _ => rfl⟩

/-- What a function that gives a reader back has left. -/
def ResB (B : Nat) (w : World) (e : Ending) (zs : List Int) (a u : Int) : Prop :=
  ∃ ao cap, e = .returned (.agg #[.slice ao zs.length cap, .int .i64 a, .int .i64 u]) ∧ Mine B w ao cap zs
def ResO (B : Nat) (w : World) (e : Ending) (zs : List Int) (a u : Int) : Prop :=
  ∃ ao cap, e = .returned (.agg #[.slice ao zs.length cap, .int .i64 a, .int .i64 u]) ∧ OwnsB 5 B w ao cap zs
theorem ResO.res {B : Nat} {w : World} {e : Ending} {zs : List Int} {a u : Int} (h : ResO B w e zs a u) : ResB B w e zs a u := by
  obtain ⟨x, y, h1, h2⟩ := h
  exact ⟨x, y, h1, h2.mine⟩
end Go.Proofs.Ytjknaigdlkpiaaa
