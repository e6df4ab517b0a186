import Derived.Test.YtphfppbfgmoamabWinN
namespace Go.Proofs.Ytphfppbfgmoamab
open Go.RowKit
attribute [local go_sem ↓] Go.wp_at_zero Go.wp_at_succ
set_option linter.unusedVariables false

theorem vwin_nat {n : Nat} {s : Int} (h : vwin n s = true) : ∃ k : Nat, s = k ∧ 0 < k ∧ k ≤ 32768 ∧ n ≤ k := by
  have := vwin_out h
  exact ⟨s.toNat, by omega, by omega, by omega, by omega⟩

theorem Win.under {w w' : World} {p g : Nat} {s : Int} {v : Value} (h : Win w p s v) (hb : Below g w w') (hp : p < g) : Win w' p s v := by
  obtain ⟨h1, h2, h4, h5⟩ := h
  have e := hb.block p hp
  exact ⟨(World.cell?_of_block (w := w) e).trans h1, (World.cell?_of_block (w := w) e).trans h2, (World.frozen?_of_block (w := w) e).trans h4, (World.frozen?_of_block (w := w) e).trans h5⟩

set_option maxRecDepth 100000 in
set_option maxHeartbeats 3200000 in
theorem iput_any (s : Int) (zs cs : List Int) (ao : Option Addr) (cap : Nat) (co : Option Addr) (cc : Nat) (w : World) (ha : Arg w ao cap zs) (hc : Arg w co cc cs) (hn : zs.length ≤ 2097152) (hm : cs.length ≤ 2097152) :
    Calls Try.prog 33 #[.agg #[.int .i64 s, .slice ao zs.length cap], .slice co cs.length cc] w fun e w' => ResW w.heap.size w' e (if vwin zs.length s then s else 0) (if vwin zs.length s then lastN s.toNat (zs ++ cs) else []) ∧ Below w.heap.size w w' := by
  have hb0 : Below w.heap.size w ((w.alloc (.cells #[.int .i64 s, .slice ao zs.length cap] 27)).alloc (.cells #[.int .i64 0, .slice none 0 0] 27)) := ((Below.refl _ _).alloc (Nat.le_refl _) _).alloc (by simp) _
  have hX := (win_new w s (.slice ao zs.length cap) 27).alloc (.cells #[.int .i64 0, .slice none 0 0] 27)
  have hW := win_new (w.alloc (.cells #[.int .i64 s, .slice ao zs.length cap] 27)) 0 (.slice none 0 0) 27
  have HV : Hid _ := ivalid_any ao zs.length cap s
  simp only [World.size_alloc] at hW
  by_cases hv : vwin zs.length s = true
  · obtain ⟨n, rfl, hn0, hn1, hn2⟩ := vwin_nat hv
    simp only [hv, if_true, Int.toNat_natCast]
    have HX := hide1 hX
    have HW := hide1 hW
    have HB := hide1 hb0
    have HA := hide1 ha
    have HC := hide1 hc
    clear ha hc hX hW hb0
    go_enter Try.func33, Try.ntmps33
    go_wp2_with fail
    refine Calls.mono (HV.out _) ?_
    rintro e w1 ⟨rfl, hb1⟩
    rw [hv]
    have HX1 := hide1 (HX.out.below hb1)
    have HW1 := hide1 (HW.out.below hb1)
    have HB1 := hide1 (HB.out.trans (hb1.mono (by simp; omega)))
    have a1 := HA.out.below HB1.out
    have HC1 := hide1 (HC.out.below HB1.out)
    have HN := hide1 (newRing_any n zs ao cap w1 hn0 hn1 a1.row a1.fits a1.most a1.lies)
    obtain ⟨x0, x1⟩ := HX1.out.two
    have z1 := HW1.out.lt
    clear hb1 a1 HV HX HW HB HA HC
    go_wp2_with fail
    refine Calls.mono HN.out ?_
    rintro e w2 ⟨g, rfl, hg1, hg2, ⟨rs, p, c, hr2, hi2⟩, hb2⟩
    have HW2 := hide1 (HW1.out.below (hb2.mono hg1))
    have HB2 := hide1 (HB1.out.trans (hb2.mono (by omega)))
    have hc2 := HC1.out.below (hb2.mono hg1)
    have HP := hide1 (put_any g rs n p c _ cs co cc w2 hr2 hi2 hn1 hc2.row hc2.fits hc2.most (fun ad e => by have := HC1.out.lies ad e; omega))
    clear HN hr2 hi2 hb2 x0 x1 hc2 HX1 HW1 HB1
    go_wp2_with fail
    refine Calls.mono HP.out ?_
    rintro e w3 ⟨rfl, ⟨rs3, p3, c3, hr3, hi3⟩, hb3⟩
    rw [lastN_lastN] at hi3
    have HW3 := hide1 (HW2.out.under hb3 (by omega))
    have HB3 := hide1 (HB2.out.trans (hb3.mono (by omega)))
    have HWN := hide1 (window_any g rs3 n p3 c3 _ w3 hr3 hi3 hn1)
    have z3 := hr3.lt
    clear HP hr3 hi3 hb3 HW2 HB2
    go_wp2_with fail
    refine Calls.mono HWN.out ?_
    rintro e w4 ⟨ao4, cap4, rfl, ho4, hb4⟩
    obtain ⟨k3, k4⟩ := win_set (HW3.out.below hb4) (n : Int) (.slice ao4 (lastN n (zs ++ cs)).length cap4)
    obtain ⟨x0, x1, f0, f1⟩ := HW3.out.below hb4
    have ho5 := ho4.grown k4 (by intro k e; simp at e; subst e; exact ho4.mine.far (by omega))
    have hb5 := HB3.out.trans (hb4.mono HB3.out.size)
    have hw5 := hb5.grown k4 hb5.size (by intro k e; simp at e; omega)
    obtain ⟨y0, y1, _, _⟩ := k3
    have hz := HB3.out.size
    clear HWN hb4 ho4
    go_wp2_with fail
    exact bodyPost_ret (v := .agg #[.int .i64 n, .slice ao4 (lastN n (zs ++ cs)).length cap4]) (by simp [results, Try.results33, go_sem, y0, y1]) rfl ⟨⟨ao4, cap4, rfl, ho5.mono hz⟩, hw5⟩
  · have hv : vwin zs.length s = false := by simpa using hv
    simp only [hv]
    have HX := hide1 hX
    have HW := hide1 hW
    have HB := hide1 hb0
    clear ha hc hX hW hb0
    go_enter Try.func33, Try.ntmps33
    go_wp2_with fail
    refine Calls.mono (HV.out _) ?_
    rintro e w1 ⟨rfl, hb1⟩
    rw [hv]
    obtain ⟨x0, x1, f0, f1⟩ := HW.out.below hb1
    have hb := HB.out.trans (hb1.mono (by simp; omega))
    obtain ⟨k3, k4⟩ := win_set (HW.out.below hb1) 0 (.slice none 0 0)
    have hb2 := hb.grown k4 hb.size (by intro k e; simp at e; omega)
    obtain ⟨y0, y1, _, _⟩ := k3
    clear hb1
    go_wp2_with fail
    exact bodyPost_ret (v := .agg #[.int .i64 0, .slice none 0 0]) (by simp [results, Try.results33, go_sem, y0, y1]) rfl ⟨ResW.zero _ _, hb2⟩

theorem ownw1 (W : World) (base e g : Nat) (hb : base ≤ W.heap.size) (hg : W.heap.size = g) : (W.alloc (.cells #[] e)).drew.ownsRow base e 1 (.slice (some ⟨g, 0, none⟩) 0 0) 0 [] := by
  subst hg
  exact World.ownsRow_lit W #[] 0 hb (by unfold maxLen; omega) rfl

end Go.Proofs.Ytphfppbfgmoamab
