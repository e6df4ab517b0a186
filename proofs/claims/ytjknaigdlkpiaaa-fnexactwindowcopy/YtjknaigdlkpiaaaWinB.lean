import Derived.Test.YtjknaigdlkpiaaaByteS
import Derived.Test.YtjknaigdlkpiaaaOwn
import Derived.Deep.QuietTactic
import Derived.Deep.RegionHeld3
import Derived.Deep.DrawnRows
namespace Go.Proofs.Ytjknaigdlkpiaaa
open Go.RowKit
attribute [local go_sem ↓] Go.wp_at_zero Go.wp_at_succ
set_option linter.unusedVariables false

theorem hide1 {p : Prop} (h : p) : Hid p := h

/-- A window in memory: its two cells. -/
def Win (w : World) (p : Nat) (s : Int) (v : Value) : Prop :=
  w.cell? ⟨p, 0, none⟩ = some (.int .i64 s) ∧ w.cell? ⟨p, 1, none⟩ = some v ∧ w.frozen? ⟨p, 0, none⟩ = false ∧ w.frozen? ⟨p, 1, none⟩ = false
theorem win_new (w : World) (s : Int) (v : Value) (t : TypeId) : Win (w.alloc (.cells #[.int .i64 s, v] t)) w.heap.size s v := by
  simp [Win, go_sem]
theorem Win.two {w : World} {p : Nat} {s : Int} {v : Value} (h : Win w p s v) : w.cell? ⟨p, 0, none⟩ = some (.int .i64 s) ∧ w.cell? ⟨p, 1, none⟩ = some v := ⟨h.1, h.2.1⟩
theorem Win.lt {w : World} {p : Nat} {s : Int} {v : Value} (h : Win w p s v) : p < w.heap.size := World.block_lt_of_cell? w _ h.1
theorem Win.grown {w w' : World} {row : Option Nat} {p : Nat} {s : Int} {v : Value} (h : Win w p s v) (hg : w.grownBy w' row) (hne : some p ≠ row) : Win w' p s v := by
  obtain ⟨h1, h2, h4, h5⟩ := h
  have hp : p < w.heap.size := World.block_lt_of_cell? w _ h1
  have e := hg.block p hp hne
  exact ⟨(World.cell?_of_block (w := w) e).trans h1, (World.cell?_of_block (w := w) e).trans h2, (World.frozen?_of_block (w := w) e).trans h4, (World.frozen?_of_block (w := w) e).trans h5⟩
theorem Win.below {w w' : World} {p : Nat} {s : Int} {v : Value} (h : Win w p s v) (hb : Below w.heap.size w w') : Win w' p s v := h.grown (grownBy_of_below hb none) (by simp)
theorem Win.alloc {w : World} {p : Nat} {s : Int} {v : Value} (h : Win w p s v) (o : Obj) : Win (w.alloc o) p s v := h.grown (World.grownBy_alloc w o none) (by simp)
theorem win_set {w : World} {p : Nat} {s : Int} {v : Value} (h : Win w p s v) (s' : Int) (v' : Value) :
    Win ((w.setCell ⟨p, 0, none⟩ (.int .i64 s')).setCell ⟨p, 1, none⟩ v') p s' v' ∧ w.grownBy ((w.setCell ⟨p, 0, none⟩ (.int .i64 s')).setCell ⟨p, 1, none⟩ v') (some p) := by
  obtain ⟨c0, c1, f0, f1⟩ := h
  refine ⟨⟨?_, ?_, ?_, ?_⟩, ?_⟩
  · rw [World.cell?_setCell_other _ _ _ _ (by simp), World.cell?_setCell_same _ _ _ c0]
  · rw [World.cell?_setCell_same _ _ _ (u := v) (by rw [World.cell?_setCell_other _ _ _ _ (by simp)]; exact c1)]
  · simp [World.frozen?_setCell, f0]
  · simp [World.frozen?_setCell, f1]
  · exact grownBy_trans (grownBy_setCell w ⟨p, 0, none⟩ _) (grownBy_setCell _ ⟨p, 1, none⟩ _)

/-- ValidWindow, of the length and Size. -/
def vwin (n : Nat) (s : Int) : Bool := decide (1 ≤ s ∧ s ≤ 32768 ∧ (n : Int) ≤ s)
theorem vwin_true {n : Nat} {s : Int} (h : 1 ≤ s ∧ s ≤ 32768 ∧ (n : Int) ≤ s) : true = vwin n s := (decide_eq_true h).symm
theorem vwin_false {n : Nat} {s : Int} (h : ¬ (1 ≤ s ∧ s ≤ 32768 ∧ (n : Int) ≤ s)) : false = vwin n s := (decide_eq_false h).symm
theorem vwin_out {n : Nat} {s : Int} (h : vwin n s = true) : 1 ≤ s ∧ s ≤ 32768 ∧ (n : Int) ≤ s := of_decide_eq_true h

/-- Whether a window may have this size. -/
def vsz (s : Int) : Bool := decide (1 ≤ s ∧ s ≤ 32768)

theorem validSize_any (s : Int) (w : World) : Calls Try.prog 53 #[.int .i64 s] w fun e w' => e = .returned (.bool (vsz s)) ∧ w' = w := by
  by_cases c1 : 1 ≤ s
  · by_cases c2 : s ≤ 32768
    · have HV : Hid (true = vsz s) := (decide_eq_true ⟨c1, c2⟩).symm
      go_enter Try.func53, Try.ntmps53
      go_wp2
      go_ret
      exact ⟨retb HV.out, rfl⟩
    · have HV : Hid (false = vsz s) := (decide_eq_false (by omega)).symm
      have d2 : decide (s ≤ 32768) = false := decide_eq_false c2
      go_enter Try.func53, Try.ntmps53
      go_wp2
      go_ret
      exact ⟨retb HV.out, rfl⟩
  · have HV : Hid (false = vsz s) := (decide_eq_false (by omega)).symm
    have d1 : decide (1 ≤ s) = false := decide_eq_false c1
    go_enter Try.func53, Try.ntmps53
    go_wp2
    go_ret
    exact ⟨retb HV.out, rfl⟩

set_option maxHeartbeats 1600000 in
theorem ivalid_any (ao : Option Addr) (n cap : Nat) (s : Int) (w : World) :
    Calls Try.prog 26 #[.agg #[.int .i64 s, .slice ao n cap]] w fun e w' => e = .returned (.bool (vwin n s)) ∧ Below w.heap.size w w' := by
  by_cases c1 : 1 ≤ s ∧ s ≤ 32768
  · have hv : vsz s = true := decide_eq_true c1
    by_cases c2 : (n : Int) ≤ s
    · have HV : Hid (true = vwin n s) := vwin_true (by omega)
      have d2 : decide ((n : Int) ≤ s) = true := decide_eq_true c2
      go_enter Try.func26, Try.ntmps26
      go_wp2_with fail
      refine (validSize_any s _).mono ?_
      rintro e w1 ⟨rfl, rfl⟩
      go_wp2_with fail
      go_ret
      exact ⟨retb HV.out, (Below.refl _ _).alloc (Nat.le_refl _) _⟩
    · have HV : Hid (false = vwin n s) := vwin_false (by omega)
      have d2 : decide ((n : Int) ≤ s) = false := decide_eq_false c2
      go_enter Try.func26, Try.ntmps26
      go_wp2_with fail
      refine (validSize_any s _).mono ?_
      rintro e w1 ⟨rfl, rfl⟩
      go_wp2_with fail
      go_ret
      exact ⟨retb HV.out, (Below.refl _ _).alloc (Nat.le_refl _) _⟩
  · have hv : vsz s = false := decide_eq_false c1
    have HV : Hid (false = vwin n s) := vwin_false (by omega)
    go_enter Try.func26, Try.ntmps26
    go_wp2_with fail
    refine (validSize_any s _).mono ?_
    rintro e w1 ⟨rfl, rfl⟩
    go_wp2_with fail
    go_ret
    exact ⟨retb HV.out, (Below.refl _ _).alloc (Nat.le_refl _) _⟩

set_option maxHeartbeats 1600000 in
theorem svalidw_any (ao : Option Addr) (n cap : Nat) (s : Int) (w : World) :
    Calls Try.prog 44 #[.agg #[.int .i64 s, .slice ao n cap]] w fun e w' => e = .returned (.bool (vwin n s)) ∧ Below w.heap.size w w' := by
  by_cases c1 : 1 ≤ s
  · by_cases c2 : s ≤ 32768
    · have d1 : decide (1 ≤ s) = true := decide_eq_true c1
      have d2 : decide (s ≤ 32768) = true := decide_eq_true c2
      by_cases c3 : (n : Int) ≤ s
      · have HV : Hid (true = vwin n s) := vwin_true (by omega)
        have d3 : decide ((n : Int) ≤ s) = true := decide_eq_true c3
        go_enter Try.func44, Try.ntmps44
        go_wp2
        go_ret
        exact ⟨retb HV.out, by first | exact ((Below.refl _ _).alloc (Nat.le_refl _) _).trans (below_drewN' _ _ _) | exact (Below.refl _ _).alloc (Nat.le_refl _) _⟩
      · have HV : Hid (false = vwin n s) := vwin_false (by omega)
        have d3 : decide ((n : Int) ≤ s) = false := decide_eq_false c3
        go_enter Try.func44, Try.ntmps44
        go_wp2
        go_ret
        exact ⟨retb HV.out, by first | exact ((Below.refl _ _).alloc (Nat.le_refl _) _).trans (below_drewN' _ _ _) | exact (Below.refl _ _).alloc (Nat.le_refl _) _⟩
    · have HV : Hid (false = vwin n s) := vwin_false (by omega)
      have d1 : decide (1 ≤ s) = true := decide_eq_true c1
      have d2 : decide (s ≤ 32768) = false := decide_eq_false c2
      go_enter Try.func44, Try.ntmps44
      go_wp2
      go_ret
      exact ⟨retb HV.out, by first | exact ((Below.refl _ _).alloc (Nat.le_refl _) _).trans (below_drewN' _ _ _) | exact (Below.refl _ _).alloc (Nat.le_refl _) _⟩
  · have HV : Hid (false = vwin n s) := vwin_false (by omega)
    have d1 : decide (1 ≤ s) = false := decide_eq_false c1
    go_enter Try.func44, Try.ntmps44
    go_wp2
    go_ret
    exact ⟨retb HV.out, by first | exact ((Below.refl _ _).alloc (Nat.le_refl _) _).trans (below_drewN' _ _ _) | exact (Below.refl _ _).alloc (Nat.le_refl _) _⟩

theorem szByteS_any (ao : Option Addr) (n cap : Nat) (left : Int) (w : World) (hn : n ≤ 9223372036854775807) (h0 : 0 ≤ left) (h1 : left ≤ 1048576) :
    Calls Try.prog 43 #[.slice ao n cap, .int .i64 left] w fun e w' => e = .returned (.int .i64 (if left < (n : Int) then -1 else left - n)) ∧ w' = w := by
  by_cases h : left < (n : Int)
  · rw [if_pos h]
    go_enter Try.func43, Try.ntmps43
    go_wp2
    go_ret
    exact ⟨rfl, rfl⟩
  · rw [if_neg h]
    go_enter Try.func43, Try.ntmps43
    go_wp2
    go_ret
    exact ⟨rfl, rfl⟩
theorem szWindow_any (ao : Option Addr) (n cap : Nat) (s left : Int) (w : World) (hn : n ≤ 9223372036854775807) (h0 : 0 ≤ left) (h1 : left ≤ 1048576) :
    Calls Try.prog 9 #[.agg #[.int .i64 s, .slice ao n cap], .int .i64 left] w fun e w' =>
      e = .returned (.int .i64 (if left < (n : Int) then -1 else left - n)) ∧ Below w.heap.size w w' := by
  by_cases h : left < (n : Int)
  · go_enter Try.func9, Try.ntmps9
    go_wp2_with fail
    refine (szByteS_any ao n cap left _ hn h0 h1).mono ?_
    rintro e w1 ⟨rfl, rfl⟩
    rw [if_pos h]
    go_wp2_with fail
    go_ret
    exact ⟨rfl, (Below.refl _ _).alloc (Nat.le_refl _) _⟩
  · go_enter Try.func9, Try.ntmps9
    go_wp2_with fail
    refine (szByteS_any ao n cap left _ hn h0 h1).mono ?_
    rintro e w1 ⟨rfl, rfl⟩
    rw [if_neg (by omega)]
    go_wp2_with fail
    go_ret
    exact ⟨rfl, (Below.refl _ _).alloc (Nat.le_refl _) _⟩

set_option maxHeartbeats 1600000 in
theorem toWindow_any (ao : Option Addr) (cap : Nat) (zs : List Int) (s : Int) (w : World) (hr : Row w ao zs) (hn : zs.length ≤ 140737488355328) :
    Calls Try.prog 11 #[.agg #[.int .i64 s, .slice ao zs.length cap]] w fun e w' => ∃ g, e = .returned (.agg #[.int .i64 s, .slice (some ⟨g, 0, none⟩) zs.length zs.length]) ∧ Mine w.heap.size w' (some ⟨g, 0, none⟩) zs.length zs ∧ Below w.heap.size w w' := by
  go_enter Try.func11, Try.ntmps11
  go_wp2_with fail
  have hb0 : Below w.heap.size w (((w.alloc (.cells #[.int .i64 s, .slice ao zs.length cap] 24)).alloc (.cells #[.int .i64 0, .slice none 0 0] 26)).alloc (.cells #[.int .i64 s, .slice none 0 0] 26)) := (((Below.refl _ _).alloc (Nat.le_refl _) _).alloc (by simp) _).alloc (by simp; omega) _
  refine (toByteS_any ao cap zs _ (hr.below hb0) hn).mono ?_
  rintro e w1 ⟨rfl, hown, hb1⟩
  have hres1 := ((win_new (w.alloc (.cells #[.int .i64 s, .slice ao zs.length cap] 24)) 0 (.slice none 0 0) 26).alloc (.cells #[.int .i64 s, .slice none 0 0] 26)).below hb1
  have hout1 := (win_new ((w.alloc (.cells #[.int .i64 s, .slice ao zs.length cap] 24)).alloc (.cells #[.int .i64 0, .slice none 0 0] 26)) s (.slice none 0 0) 26).below hb1
  simp only [World.size_alloc] at hres1 hout1 hown hb1
  have hbl1 : Below w.heap.size w w1 := hb0.trans (hb1.mono (by omega))
  obtain ⟨ao', cap', e', hm⟩ := Mine.of_owns hown
  simp only [Value.slice.injEq, true_and] at e'
  obtain ⟨rfl, rfl⟩ := e'
  have k2 : w1.grownBy (w1.setCell ⟨w.heap.size + 1 + 1, 1, none⟩ (.slice (some ⟨w.heap.size + 1 + 1 + 1, 0, none⟩) zs.length zs.length)) (some (w.heap.size + 1 + 1)) := grownBy_setCell _ _ _
  have hres2 := hres1.grown k2 (by simp)
  have hm2 := hm.grown k2 (by intro k e; simp at e; subst e; exact hm.far (by omega))
  have hbl2 := hbl1.grown k2 (by have := hbl1.size; omega) (by intro k e; simp at e; omega)
  obtain ⟨l1, l2⟩ := win_set hres2 s (.slice (some ⟨w.heap.size + 1 + 1 + 1, 0, none⟩) zs.length zs.length)
  have hm3 := hm2.grown l2 (by intro k e; simp at e; subst e; exact hm2.far (by omega))
  have hbl3 := hbl2.grown l2 (by have := hbl2.size; omega) (by intro k e; simp at e; omega)
  obtain ⟨r0, r1, rf0, rf1⟩ := hres1
  obtain ⟨o0, o1, of0, of1⟩ := hout1
  obtain ⟨x0, x1, _, _⟩ := l1
  clear hown hb1 hbl1 hm k2 hres2 hm2 hbl2 l2 hr hb0
  go_wp2_with fail
  exact bodyPost_ret (v := .agg #[.int .i64 s, .slice (some ⟨w.heap.size + 1 + 1 + 1, 0, none⟩) zs.length zs.length]) (by simp [results, Try.results11, go_sem, x0, x1]) rfl ⟨_, rfl, hm3.mono (by omega), hbl3⟩

/-- laws.eqWindow, at two equal windows. -/
theorem eqWindow_same (ao bo : Option Addr) (ca cb : Nat) (zs : List Int) (s : Int) (w : World) (ha : Row w ao zs) (hb : Row w bo zs) (hn : zs.length ≤ 140737488355328) :
    Calls Try.prog 14 #[.agg #[.int .i64 s, .slice ao zs.length ca], .agg #[.int .i64 s, .slice bo zs.length cb]] w fun e w' => e = .returned (.bool true) ∧ Below w.heap.size w w' := by
  have hbl : Below w.heap.size w ((w.alloc (.cells #[.int .i64 s, .slice ao zs.length ca] 26)).alloc (.cells #[.int .i64 s, .slice bo zs.length cb] 26)) := ((Below.refl _ _).alloc (Nat.le_refl _) _).alloc (by simp) _
  have h1 : (s != s) = false := by simp
  go_enter Try.func14, Try.ntmps14
  go_wp2_with fail
  refine (eqByteS_any ao bo ca cb zs zs _ (ha.below hbl) (hb.below hbl) hn).mono ?_
  rintro e w1 ⟨rfl, q, rfl⟩
  rw [decide_eq_true rfl]
  go_wp2_with fail
  go_ret
  exact ⟨rfl, hbl.trans (below_drewN' _ _ _)⟩

/-- laws.markWindow. -/
theorem markWindow_any (B : Nat) (ao : Option Addr) (cap : Nat) (zs : List Int) (s : Int) (k : Nat) (w : World) (hm : Mine B w ao cap zs) (hn : zs.length ≤ 140737488355328) (hk : k ≤ 140737488355328) :
    Calls Try.prog 15 #[.agg #[.int .i64 s, .slice ao zs.length cap], .int .i64 k] w fun e w' =>
      e = .returned (.int .i64 ((k + zs.length : Nat) : Int)) ∧ Mine B w' ao cap (marks k zs.length) ∧ w.grownBy w' (blk ao) := by
  have hm1 := hm.below ((Below.refl _ _).alloc (Nat.le_refl _) (.cells #[.int .i64 s, .slice ao zs.length cap] 26))
  go_enter Try.func15, Try.ntmps15
  go_wp2_with fail
  refine (markByteS_any ao cap zs k _ hm1.row hm1.free hn hk).mono ?_
  rintro e w1 ⟨rfl, h1, h2, h3, h4⟩
  go_wp2_with fail
  go_ret
  refine ⟨rfl, ⟨by rw [marks_len]; exact hm.fits, hm.most, h1, by rw [marks_len]; exact h2, ?_, hm.bare⟩, grownBy_trans (World.grownBy_alloc w _ _) h3⟩
  intro ad e
  have := hm1.lies ad e
  exact ⟨this.1, by rw [h4]; exact this.2.1, this.2.2⟩

/-- laws.heldWindow, at what markWindow has left. -/
theorem heldWindow_any (ao : Option Addr) (cap n : Nat) (s : Int) (k : Nat) (w : World) (hr : Row w ao (marks k n)) (hn : n ≤ 140737488355328) (hk : k ≤ 140737488355328) :
    Calls Try.prog 23 #[.agg #[.int .i64 s, .slice ao n cap], .int .i64 k] w fun e w' => e = .returned (.int .i64 ((k + n : Nat) : Int)) ∧ Below w.heap.size w w' := by
  have hbl : Below w.heap.size w (w.alloc (.cells #[.int .i64 s, .slice ao n cap] 26)) := (Below.refl _ _).alloc (Nat.le_refl _) _
  go_enter Try.func23, Try.ntmps23
  go_wp2_with fail
  refine (heldByteS_any ao cap n k _ (hr.below hbl) hn hk).mono ?_
  rintro e w1 ⟨rfl, rfl⟩
  go_wp2_with fail
  go_ret
  exact ⟨rfl, hbl⟩
end Go.Proofs.Ytjknaigdlkpiaaa
