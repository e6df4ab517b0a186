import Derived.Test.YtjknaigdlkpiaaaRingR
import Derived.Test.YtjknaigdlkpiaaaWinP
namespace Go.Proofs.Ytjknaigdlkpiaaa
open Go.RowKit
attribute [local go_sem ↓] Go.wp_at_zero Go.wp_at_succ
set_option linter.unusedVariables false

/-- A CopyRes in memory: its four cells. -/
def Cpy (w : World) (p : Nat) (b : Bool) (v : Value) (s : Int) (v2 : Value) : Prop :=
  w.cell? ⟨p, 0, none⟩ = some (.bool b) ∧ w.cell? ⟨p, 1, none⟩ = some v ∧ w.cell? ⟨p, 2, none⟩ = some (.int .i64 s) ∧ w.cell? ⟨p, 3, none⟩ = some v2 ∧
    w.frozen? ⟨p, 0, none⟩ = false ∧ w.frozen? ⟨p, 1, none⟩ = false ∧ w.frozen? ⟨p, 2, none⟩ = false ∧ w.frozen? ⟨p, 3, none⟩ = false
theorem cpy_new (w : World) (b : Bool) (v : Value) (s : Int) (v2 : Value) (t : TypeId) : Cpy (w.alloc (.cells #[.bool b, v, .int .i64 s, v2] t)) w.heap.size b v s v2 := by
  simp [Cpy, go_sem]
theorem Cpy.four {w : World} {p : Nat} {b : Bool} {v : Value} {s : Int} {v2 : Value} (h : Cpy w p b v s v2) : w.cell? ⟨p, 0, none⟩ = some (.bool b) ∧ w.cell? ⟨p, 1, none⟩ = some v ∧ w.cell? ⟨p, 2, none⟩ = some (.int .i64 s) ∧ w.cell? ⟨p, 3, none⟩ = some v2 := ⟨h.1, h.2.1, h.2.2.1, h.2.2.2.1⟩
theorem Cpy.lt {w : World} {p : Nat} {b : Bool} {v : Value} {s : Int} {v2 : Value} (h : Cpy w p b v s v2) : p < w.heap.size := World.block_lt_of_cell? w _ h.1
theorem Cpy.grown {w w' : World} {row : Option Nat} {p : Nat} {b : Bool} {v : Value} {s : Int} {v2 : Value} (h : Cpy w p b v s v2) (hg : w.grownBy w' row) (hne : some p ≠ row) : Cpy w' p b v s v2 := by
  have e := hg.block p h.lt hne
  obtain ⟨h1, h2, h3, h4, f1, f2, f3, f4⟩ := h
  exact ⟨(World.cell?_of_block (w := w) e).trans h1, (World.cell?_of_block (w := w) e).trans h2, (World.cell?_of_block (w := w) e).trans h3, (World.cell?_of_block (w := w) e).trans h4,
    (World.frozen?_of_block (w := w) e).trans f1, (World.frozen?_of_block (w := w) e).trans f2, (World.frozen?_of_block (w := w) e).trans f3, (World.frozen?_of_block (w := w) e).trans f4⟩
theorem Cpy.below {w w' : World} {p : Nat} {b : Bool} {v : Value} {s : Int} {v2 : Value} (h : Cpy w p b v s v2) (hb : Below w.heap.size w w') : Cpy w' p b v s v2 := h.grown (grownBy_of_below hb none) (by simp)
theorem Cpy.under {w w' : World} {p g : Nat} {b : Bool} {v : Value} {s : Int} {v2 : Value} (h : Cpy w p b v s v2) (hb : Below g w w') (hp : p < g) : Cpy w' p b v s v2 := by
  have e := hb.block p hp
  obtain ⟨h1, h2, h3, h4, f1, f2, f3, f4⟩ := h
  exact ⟨(World.cell?_of_block (w := w) e).trans h1, (World.cell?_of_block (w := w) e).trans h2, (World.cell?_of_block (w := w) e).trans h3, (World.cell?_of_block (w := w) e).trans h4,
    (World.frozen?_of_block (w := w) e).trans f1, (World.frozen?_of_block (w := w) e).trans f2, (World.frozen?_of_block (w := w) e).trans f3, (World.frozen?_of_block (w := w) e).trans f4⟩
theorem cpy_set {w : World} {p : Nat} {b : Bool} {v : Value} {s : Int} {v2 : Value} (h : Cpy w p b v s v2) (b' : Bool) (v' : Value) (s' : Int) (v2' : Value) :
    Cpy ((((w.setCell ⟨p, 0, none⟩ (.bool b')).setCell ⟨p, 1, none⟩ v').setCell ⟨p, 2, none⟩ (.int .i64 s')).setCell ⟨p, 3, none⟩ v2') p b' v' s' v2' ∧
      w.grownBy ((((w.setCell ⟨p, 0, none⟩ (.bool b')).setCell ⟨p, 1, none⟩ v').setCell ⟨p, 2, none⟩ (.int .i64 s')).setCell ⟨p, 3, none⟩ v2') (some p) := by
  obtain ⟨h1, h2, h3, h4, f1, f2, f3, f4⟩ := h
  refine ⟨⟨?_, ?_, ?_, ?_, ?_, ?_, ?_, ?_⟩, ?_⟩
  · rw [World.cell?_setCell_other _ _ _ _ (by simp), World.cell?_setCell_other _ _ _ _ (by simp), World.cell?_setCell_other _ _ _ _ (by simp), World.cell?_setCell_same _ _ _ h1]
  · rw [World.cell?_setCell_other _ _ _ _ (by simp), World.cell?_setCell_other _ _ _ _ (by simp), World.cell?_setCell_same _ _ _ (u := v) (by rw [World.cell?_setCell_other _ _ _ _ (by simp)]; exact h2)]
  · rw [World.cell?_setCell_other _ _ _ _ (by simp), World.cell?_setCell_same _ _ _ (u := .int .i64 s) (by rw [World.cell?_setCell_other _ _ _ _ (by simp), World.cell?_setCell_other _ _ _ _ (by simp)]; exact h3)]
  · rw [World.cell?_setCell_same _ _ _ (u := v2) (by rw [World.cell?_setCell_other _ _ _ _ (by simp), World.cell?_setCell_other _ _ _ _ (by simp), World.cell?_setCell_other _ _ _ _ (by simp)]; exact h4)]
  · simp [World.frozen?_setCell, f1]
  · simp [World.frozen?_setCell, f2]
  · simp [World.frozen?_setCell, f3]
  · simp [World.frozen?_setCell, f4]
  · exact grownBy_trans (grownBy_trans (grownBy_trans (grownBy_setCell w ⟨p, 0, none⟩ _) (grownBy_setCell _ ⟨p, 1, none⟩ _)) (grownBy_setCell _ ⟨p, 2, none⟩ _)) (grownBy_setCell _ ⟨p, 3, none⟩ _)

/-- Whether a copy may be made. -/
def vcpy (n : Nat) (s d m : Int) : Bool := vwin n s && decide (1 ≤ m ∧ m ≤ 258 ∧ 1 ≤ d ∧ d ≤ (n : Int))
theorem vcpy_true {n : Nat} {s d m : Int} (h : vcpy n s d m = true) : ∃ (k dd mm : Nat), s = k ∧ d = dd ∧ m = mm ∧ 0 < k ∧ k ≤ 32768 ∧ n ≤ k ∧ 1 ≤ dd ∧ dd ≤ n ∧ 1 ≤ mm ∧ mm ≤ 258 ∧ vwin n k = true := by
  simp only [vcpy, Bool.and_eq_true, decide_eq_true_eq] at h
  obtain ⟨h1, h2⟩ := h
  obtain ⟨k, rfl, h3, h4, h5⟩ := vwin_nat h1
  exact ⟨k, d.toNat, m.toNat, rfl, by omega, by omega, h3, h4, h5, by omega, by omega, by omega, by omega, h1⟩

/-- A CopyRes that came back. -/
def ResC (B : Nat) (w : World) (e : Ending) (b : Bool) (ds : List Int) (s : Int) (zs : List Int) : Prop :=
  ∃ ao cap bo bc, e = .returned (.agg #[.bool b, .slice ao ds.length cap, .int .i64 s, .slice bo zs.length bc]) ∧ Mine B w ao cap ds ∧ Mine B w bo bc zs ∧ (∀ k, blk ao = some k → blk bo ≠ some k)
theorem ResC.zero (B : Nat) (w : World) : ResC B w (.returned (.agg #[.bool false, .slice none 0 0, .int .i64 0, .slice none 0 0])) false [] 0 [] :=
  ⟨none, 0, none, 0, rfl, (OwnsB.nothing 0 _ _).mine, (OwnsB.nothing 0 _ _).mine, fun k e => by cases e⟩
theorem blk_mine {B : Nat} {w : World} {ao : Option Addr} {cap : Nat} {zs : List Int} (h : Mine B w ao cap zs) {k : Nat} (e : blk ao = some k) : B ≤ k ∧ k < w.heap.size := by
  cases ao with
  | none => cases e
  | some ad =>
    have := h.lies ad rfl
    simp [blk] at e
    omega

set_option maxRecDepth 100000 in
set_option maxHeartbeats 3200000 in
theorem icopy_no (s d m : Int) (zs : List Int) (ao : Option Addr) (cap : Nat) (w : World) (hn : zs.length ≤ 9223372036854775807) (hv : vcpy zs.length s d m = false) :
    Calls Try.prog 12 #[.agg #[.int .i64 s, .slice ao zs.length cap], .int .i64 d, .int .i64 m] w fun e w' => ResC w.heap.size w' e false [] 0 [] ∧ Below w.heap.size w w' := by
  have hb0 : Below w.heap.size w ((w.alloc (.cells #[.int .i64 s, .slice ao zs.length cap] 26)).alloc (.cells #[.bool false, .slice none 0 0, .int .i64 0, .slice none 0 0] 28)) := ((Below.refl _ _).alloc (Nat.le_refl _) _).alloc (by simp) _
  have hX := (win_new w s (.slice ao zs.length cap) 26).alloc (.cells #[.bool false, .slice none 0 0, .int .i64 0, .slice none 0 0] 28)
  have hW := cpy_new (w.alloc (.cells #[.int .i64 s, .slice ao zs.length cap] 26)) false (.slice none 0 0) 0 (.slice none 0 0) 28
  have HV : Hid _ := ivalid_any ao zs.length cap s
  simp only [World.size_alloc] at hW
  have HX := hide1 hX
  have HW := hide1 hW
  have HB := hide1 hb0
  clear hX hW hb0
  go_enter Try.func12, Try.ntmps12
  go_wp2_with fail
  refine Calls.mono (HV.out _) ?_
  rintro e w1 ⟨rfl, hb1⟩
  have HX1 := hide1 (HX.out.below hb1)
  have hb := HB.out.trans (hb1.mono (by simp; omega))
  obtain ⟨k3, k4⟩ := cpy_set (HW.out.below hb1) false (.slice none 0 0) 0 (.slice none 0 0)
  have hb2 := hb.grown k4 hb.size (by intro k e; simp at e; omega)
  obtain ⟨x0, x1⟩ := HX1.out.two
  obtain ⟨r0, r1, r2, r3, f0, f1, f2, f3⟩ := HW.out.below hb1
  obtain ⟨y0, y1, y2, y3, _⟩ := k3
  clear hb1 k4 HV
  by_cases v : vwin zs.length s = true
  · rw [v]
    have hq : ¬ (1 ≤ m ∧ m ≤ 258 ∧ 1 ≤ d ∧ d ≤ (zs.length : Int)) := by
      simp only [vcpy, v, Bool.true_and] at hv
      exact of_decide_eq_false hv
    by_cases c1 : m < 1
    · have d1 : decide (m < 1) = true := decide_eq_true c1
      go_wp2_with fail
      exact bodyPost_ret (v := .agg #[.bool false, .slice none 0 0, .int .i64 0, .slice none 0 0]) (by simp [results, Try.results12, go_sem, y0, y1, y2, y3]) rfl ⟨ResC.zero _ _, hb2⟩
    · have d1 : decide (m < 1) = false := decide_eq_false c1
      by_cases c2 : 258 < m
      · have d2 : decide (258 < m) = true := decide_eq_true c2
        go_wp2_with fail
        exact bodyPost_ret (v := .agg #[.bool false, .slice none 0 0, .int .i64 0, .slice none 0 0]) (by simp [results, Try.results12, go_sem, y0, y1, y2, y3]) rfl ⟨ResC.zero _ _, hb2⟩
      · have d2 : decide (258 < m) = false := decide_eq_false c2
        by_cases c3 : d < 1
        · have d3 : decide (d < 1) = true := decide_eq_true c3
          go_wp2_with fail
          exact bodyPost_ret (v := .agg #[.bool false, .slice none 0 0, .int .i64 0, .slice none 0 0]) (by simp [results, Try.results12, go_sem, y0, y1, y2, y3]) rfl ⟨ResC.zero _ _, hb2⟩
        · have d3 : decide (d < 1) = false := decide_eq_false c3
          have d4 : decide ((zs.length : Int) < d) = true := decide_eq_true (by omega)
          go_wp2_with fail
          exact bodyPost_ret (v := .agg #[.bool false, .slice none 0 0, .int .i64 0, .slice none 0 0]) (by simp [results, Try.results12, go_sem, y0, y1, y2, y3]) rfl ⟨ResC.zero _ _, hb2⟩
  · have v : vwin zs.length s = false := by simpa using v
    rw [v]
    go_wp2_with fail
    exact bodyPost_ret (v := .agg #[.bool false, .slice none 0 0, .int .i64 0, .slice none 0 0]) (by simp [results, Try.results12, go_sem, y0, y1, y2, y3]) rfl ⟨ResC.zero _ _, hb2⟩

set_option maxRecDepth 100000 in
set_option maxHeartbeats 3200000 in
theorem icopy_yes (s d m : Nat) (zs : List Int) (ao : Option Addr) (cap : Nat) (w : World) (ha : Arg w ao cap zs) (hs0 : 0 < s) (hs : s ≤ 32768) (hz : zs.length ≤ s) (hd0 : 1 ≤ d) (hd : d ≤ zs.length) (hm0 : 1 ≤ m) (hm : m ≤ 258) (v : vwin zs.length s = true) :
    Calls Try.prog 12 #[.agg #[.int .i64 s, .slice ao zs.length cap], .int .i64 d, .int .i64 m] w fun e w' => ResC w.heap.size w' e true (dataN zs d m) s (lastN s (copyN zs d m)) ∧ Below w.heap.size w w' := by
  have hb0 : Below w.heap.size w ((w.alloc (.cells #[.int .i64 s, .slice ao zs.length cap] 26)).alloc (.cells #[.bool false, .slice none 0 0, .int .i64 0, .slice none 0 0] 28)) := ((Below.refl _ _).alloc (Nat.le_refl _) _).alloc (by simp) _
  have hX := (win_new w s (.slice ao zs.length cap) 26).alloc (.cells #[.bool false, .slice none 0 0, .int .i64 0, .slice none 0 0] 28)
  have hW := cpy_new (w.alloc (.cells #[.int .i64 s, .slice ao zs.length cap] 26)) false (.slice none 0 0) 0 (.slice none 0 0) 28
  have HV : Hid _ := ivalid_any ao zs.length cap s
  simp only [World.size_alloc] at hW
  have HX := hide1 hX
  have HW := hide1 hW
  have HB := hide1 hb0
  have HA := hide1 ha
  clear hX hW hb0 ha
  have d1 : decide ((m : Int) < 1) = false := decide_eq_false (by omega)
  have d2 : decide (258 < (m : Int)) = false := decide_eq_false (by omega)
  have d3 : decide ((d : Int) < 1) = false := decide_eq_false (by omega)
  have d4 : decide ((zs.length : Int) < (d : Int)) = false := decide_eq_false (by omega)
  go_enter Try.func12, Try.ntmps12
  go_wp2_with fail
  refine Calls.mono (HV.out _) ?_
  rintro e w1 ⟨rfl, hb1⟩
  rw [v]
  have HX1 := hide1 (HX.out.below hb1)
  have HW1 := hide1 (HW.out.below hb1)
  have HB1 := hide1 (HB.out.trans (hb1.mono (by simp; omega)))
  have a1 := HA.out.below HB1.out
  have HN := hide1 (newRing_any s zs ao cap w1 hs0 hs a1.row a1.fits a1.most a1.lies)
  obtain ⟨x0, x1⟩ := HX1.out.two
  have z1 := HW1.out.lt
  clear hb1 a1 HV HX HW HB HA
  go_wp2_with fail
  refine Calls.mono HN.out ?_
  rintro e w2 ⟨g, rfl, hg1, hg2, hT2, hb2⟩
  rw [lastN_all hz] at hT2
  have HW2 := hide1 (HW1.out.below (hb2.mono hg1))
  have HB2 := hide1 (HB1.out.trans (hb2.mono (by omega)))
  have HR := hide1 (repeat_any g s zs d m w2 hT2 hs hd0 hd hm0 hm)
  clear HN hT2 hb2 x0 x1 HX1 HW1 HB1
  go_wp2_with fail
  refine Calls.mono HR.out ?_
  rintro e w3 ⟨rfl, ho3, ⟨rs3, p3, c3, hr3, hi3⟩, hb3⟩
  have hml : (dataN zs d m).length = m := dataN_len _ _ _
  have ho3' : OwnsB 5 w2.heap.size w3 (some ⟨w2.heap.size, 0, none⟩) m (dataN zs d m) := by show World.ownsRow _ _ _ _ _ _ _; rw [hml]; exact ho3
  have HO3 := hide1 ho3'
  have HW3 := hide1 (HW2.out.under hb3 (by omega))
  have HB3 := hide1 (HB2.out.trans (hb3.mono (by omega)))
  have HWN := hide1 (window_any g rs3 s p3 c3 _ w3 hr3 hi3 hs)
  have z3 := hr3.lt
  have z23 : w2.heap.size < w3.heap.size := (ho3'.mine.lies _ rfl).2.1
  clear HR hr3 hi3 hb3 HW2 HB2 ho3 ho3'
  go_wp2_with fail
  refine Calls.mono HWN.out ?_
  rintro e w4 ⟨ao4, cap4, rfl, ho4, hb4⟩
  obtain ⟨k3, k4⟩ := cpy_set (HW3.out.below hb4) true (.slice (some ⟨w2.heap.size, 0, none⟩) m m) (s : Int) (.slice ao4 (lastN s (copyN zs d m)).length cap4)
  obtain ⟨r0, r1, r2, r3, f0, f1, f2, f3⟩ := HW3.out.below hb4
  have ho5 := ho4.grown k4 (by intro k e; simp at e; subst e; exact ho4.mine.far (by omega))
  have HO5 := (HO3.out.below hb4).grown k4 (by intro k e; simp at e; subst e; simp [blk]; omega)
  have hb5 := HB3.out.trans (hb4.mono HB3.out.size)
  have hw5 := hb5.grown k4 hb5.size (by intro k e; simp at e; omega)
  obtain ⟨y0, y1, y2, y3, _⟩ := k3
  have hzz := HB3.out.size
  have hzw : w.heap.size ≤ w2.heap.size := by omega
  clear HWN hb4
  go_wp2_with fail
  refine bodyPost_ret (v := .agg #[.bool true, .slice (some ⟨w2.heap.size, 0, none⟩) m m, .int .i64 s, .slice ao4 (lastN s (copyN zs d m)).length cap4]) (by simp [results, Try.results12, go_sem, y0, y1, y2, y3]) rfl ⟨⟨_, _, ao4, cap4, by rw [hml], (HO5.mono hzw).mine, (ho5.mono hzz).mine, ?_⟩, hw5⟩
  intro k e h
  have := blk_mine ho4.mine h
  simp [blk] at e
  omega

end Go.Proofs.Ytjknaigdlkpiaaa
