import Derived.Test.YtmfacacpoajpgabSrc
import Derived.Test.YtmfacacpoajpgabByteS
namespace Go.Proofs.Ytmfacacpoajpgab
open Go.RowKit
attribute [local go_sem ↓] Go.wp_at_zero Go.wp_at_succ

theorem src_alloc2 {w : World} {p : Nat} {v : Value} {a u : Int} (h : Src w p v a u) (o : Obj) : Src (w.alloc o) p v a u :=
  h.grown (World.grownBy_alloc w o none) (by simp)

theorem hide1 {p : Prop} (h : p) : Hid p := h
theorem Src.three {w : World} {p : Nat} {v : Value} {a u : Int} (h : Src w p v a u) : w.cell? ⟨p, 0, none⟩ = some v ∧ w.cell? ⟨p, 1, none⟩ = some (.int .i64 a) ∧ w.cell? ⟨p, 2, none⟩ = some (.int .i64 u) := ⟨h.1, h.2.1, h.2.2.1⟩

/-- laws.szBits. -/
theorem szBits_any (ao : Option Addr) (n cap : Nat) (a u left : Int) (w : World) (hn : n ≤ 9223372036854775807) (h0 : 0 ≤ left) (h1 : left ≤ 1048576) :
    Calls Try.prog 9 #[.agg #[.slice ao n cap, .int .i64 a, .int .i64 u], .int .i64 left] w fun e w' =>
      e = .returned (.int .i64 (if left < (n : Int) then -1 else left - n)) ∧ Below w.heap.size w w' := by
  by_cases h : left < (n : Int)
  · rw [if_pos h]
    go_enter Try.func9, Try.ntmps9
    go_wp2
    go_ret
    exact ⟨rfl, (Below.refl _ _).alloc (Nat.le_refl _) _⟩
  · rw [if_neg h]
    go_enter Try.func9, Try.ntmps9
    go_wp2
    go_ret
    exact ⟨rfl, (Below.refl _ _).alloc (Nat.le_refl _) _⟩

set_option maxHeartbeats 1600000 in
/-- laws.toBits. -/
theorem toBits_any (ao : Option Addr) (cap : Nat) (zs : List Int) (a u : Int) (w : World) (hr : Row w ao zs) (hn : zs.length ≤ 140737488355328) :
    Calls Try.prog 11 #[.agg #[.slice ao zs.length cap, .int .i64 a, .int .i64 u]] w fun e w' => ∃ g, e = .returned (.agg #[.slice (some ⟨g, 0, none⟩) zs.length zs.length, .int .i64 a, .int .i64 u]) ∧ Mine w.heap.size w' (some ⟨g, 0, none⟩) zs.length zs ∧ Below w.heap.size w w' := by
  go_enter Try.func11, Try.ntmps11
  go_wp2_with fail
  refine (toByteS_any ao cap zs _ (hr.below ((((Below.refl _ _).alloc (Nat.le_refl _) _).alloc (by simp) _).alloc (by simp; omega) _)) hn).mono ?_
  rintro e w1 ⟨rfl, hown, hb1⟩
  simp only [World.size_alloc] at hown hb1
  have harg1 := (src_alloc2 (src_alloc2 (src_new w (.slice ao zs.length cap) a u 24) (.cells #[.slice none 0 0, .int .i64 0, .int .i64 0] 26)) (.cells #[.slice none 0 0, .int .i64 0, .int .i64 0] 26)).grown (grownBy_of_below (by simpa using hb1) none) (by simp)
  have hres1 := (src_alloc2 (src_new (w.alloc (.cells #[.slice ao zs.length cap, .int .i64 a, .int .i64 u] 24)) (.slice none 0 0) 0 0 26) (.cells #[.slice none 0 0, .int .i64 0, .int .i64 0] 26)).grown (grownBy_of_below (by simpa using hb1) none) (by simp)
  have hout1 := (src_new ((w.alloc (.cells #[.slice ao zs.length cap, .int .i64 a, .int .i64 u] 24)).alloc (.cells #[.slice none 0 0, .int .i64 0, .int .i64 0] 26)) (.slice none 0 0) 0 0 26).grown (grownBy_of_below (by simpa using hb1) none) (by simp)
  simp only [World.size_alloc] at hres1 hout1
  have hbl1 : Below w.heap.size w w1 := ((((Below.refl w.heap.size w).alloc (Nat.le_refl _) _).alloc (by simp) _).alloc (by simp; omega) _).trans (hb1.mono (by omega))
  have hz1 : w.heap.size + 3 ≤ w1.heap.size := by have := hb1.size; simp at this; omega
  obtain ⟨ao', cap', e', hm⟩ := Mine.of_owns hown
  simp only [Value.slice.injEq, true_and] at e'
  obtain ⟨rfl, rfl⟩ := e'
  obtain ⟨k1, k2, k3⟩ := src_set hout1 (.slice (some ⟨w.heap.size + 1 + 1 + 1, 0, none⟩) zs.length zs.length) a u
  have hres2 := hres1.grown k2 (by simp)
  have hm2 := hm.grown k2 (by intro k e; simp at e; subst e; exact hm.far (by omega))
  have hbl2 := hbl1.grown k2 (by omega) (by intro k e; simp at e; omega)
  obtain ⟨l1, l2, l3⟩ := src_set hres2 (.slice (some ⟨w.heap.size + 1 + 1 + 1, 0, none⟩) zs.length zs.length) a u
  have hm3 := hm2.grown l2 (by intro k e; simp at e; subst e; exact hm2.far (by omega))
  have hbl3 := hbl2.grown l2 (by omega) (by intro k e; simp at e; omega)
  obtain ⟨g0, g1, g2, _, _, _⟩ := harg1
  obtain ⟨r0, r1, r2, rf0, rf1, rf2⟩ := hres1
  obtain ⟨o0, o1, o2, of0, of1, of2⟩ := hout1
  obtain ⟨x0, x1, x2, _, _, _⟩ := l1
  clear hown hb1 hbl1 hm k1 k2 k3 hres2 hm2 hbl2 l2 l3 hr
  go_wp2_with fail
  exact bodyPost_ret (v := .agg #[.slice (some ⟨w.heap.size + 1 + 1 + 1, 0, none⟩) zs.length zs.length, .int .i64 a, .int .i64 u]) (by simp [results, Try.results11, go_sem, x0, x1, x2]) rfl ⟨_, rfl, hm3.mono (by omega), hbl3⟩

/-- laws.eqBits, at two equal readers. -/
theorem eqBits_same (ao bo : Option Addr) (ca cb : Nat) (zs : List Int) (a u : Int) (w : World) (ha : Row w ao zs) (hb : Row w bo zs) (hn : zs.length ≤ 140737488355328) :
    Calls Try.prog 14 #[.agg #[.slice ao zs.length ca, .int .i64 a, .int .i64 u], .agg #[.slice bo zs.length cb, .int .i64 a, .int .i64 u]] w fun e w' => e = .returned (.bool true) ∧ Below w.heap.size w w' := by
  have hbl : Below w.heap.size w ((w.alloc (.cells #[.slice ao zs.length ca, .int .i64 a, .int .i64 u] 26)).alloc (.cells #[.slice bo zs.length cb, .int .i64 a, .int .i64 u] 26)) := ((Below.refl _ _).alloc (Nat.le_refl _) _).alloc (by simp) _
  have h1 : (a != a) = false := by simp
  have h2 : (u != u) = false := by simp
  go_enter Try.func14, Try.ntmps14
  go_wp2_with fail
  refine (eqByteS_any ao bo ca cb zs zs _ (ha.below hbl) (hb.below hbl) hn).mono ?_
  rintro e w1 ⟨rfl, q, rfl⟩
  rw [decide_eq_true rfl]
  go_wp2_with fail
  go_ret
  exact ⟨rfl, hbl.trans (below_drewN' _ _ _)⟩

/-- laws.markBits. -/
theorem markBits_any (B : Nat) (ao : Option Addr) (cap : Nat) (zs : List Int) (a u : Int) (k : Nat) (w : World) (hm : Mine B w ao cap zs) (hn : zs.length ≤ 140737488355328) (hk : k ≤ 140737488355328) :
    Calls Try.prog 16 #[.agg #[.slice ao zs.length cap, .int .i64 a, .int .i64 u], .int .i64 k] w fun e w' =>
      e = .returned (.int .i64 ((k + zs.length : Nat) : Int)) ∧ Mine B w' ao cap (marks k zs.length) ∧ w.grownBy w' (blk ao) := by
  have hm1 := hm.below ((Below.refl _ _).alloc (Nat.le_refl _) (.cells #[.slice ao zs.length cap, .int .i64 a, .int .i64 u] 26))
  go_enter Try.func16, Try.ntmps16
  go_wp2_with fail
  refine (markByteS_any ao cap zs k _ hm1.row hm1.free hn hk).mono ?_
  rintro e w1 ⟨rfl, h1, h2, h3, h4⟩
  go_wp2_with fail
  go_ret
  refine ⟨rfl, ⟨by rw [marks_len]; exact hm.fits, hm.most, h1, by rw [marks_len]; exact h2, ?_, hm.bare⟩, grownBy_trans (World.grownBy_alloc w _ _) h3⟩
  intro ad e
  have := hm1.lies ad e
  exact ⟨this.1, by rw [h4]; exact this.2.1, this.2.2⟩

/-- laws.heldBits, at what markBits has left. -/
theorem heldBits_any (ao : Option Addr) (cap n : Nat) (a u : Int) (k : Nat) (w : World) (hr : Row w ao (marks k n)) (hn : n ≤ 140737488355328) (hk : k ≤ 140737488355328) :
    Calls Try.prog 18 #[.agg #[.slice ao n cap, .int .i64 a, .int .i64 u], .int .i64 k] w fun e w' => e = .returned (.int .i64 ((k + n : Nat) : Int)) ∧ Below w.heap.size w w' := by
  have hbl : Below w.heap.size w (w.alloc (.cells #[.slice ao n cap, .int .i64 a, .int .i64 u] 26)) := (Below.refl _ _).alloc (Nat.le_refl _) _
  go_enter Try.func18, Try.ntmps18
  go_wp2_with fail
  refine (heldByteS_any ao cap n k _ (hr.below hbl) hn hk).mono ?_
  rintro e w1 ⟨rfl, rfl⟩
  go_wp2_with fail
  go_ret
  exact ⟨rfl, hbl⟩
end Go.Proofs.Ytmfacacpoajpgab
