import Derived.Test.YtjknaigdlkpiaaaWinN
namespace Go.Proofs.Ytjknaigdlkpiaaa
open Go.RowKit
attribute [local go_sem ↓] Go.wp_at_zero Go.wp_at_succ
set_option linter.unusedVariables false

theorem vwin_nat {n : Nat} {s : Int} (h : vwin n s = true) : ∃ k : Nat, s = k ∧ 0 < k ∧ k ≤ 32768 ∧ n ≤ k := by
  have := vwin_out h
  exact ⟨s.toNat, by omega, by omega, by omega, by omega⟩

theorem Win.under {w w' : World} {p g : Nat} {s : Int} {v : Value} (h : Win w p s v) (hb : Below g w w') (hp : p < g) : Win w' p s v := by
  obtain ⟨h1, h2, h4, h5⟩ := h
  have e := hb.block p hp
  exact ⟨(World.cell?_of_block (w := w) e).trans h1, (World.cell?_of_block (w := w) e).trans h2, (World.frozen?_of_block (w := w) e).trans h4, (World.frozen?_of_block (w := w) e).trans h5⟩

set_option maxRecDepth 100000 in
set_option maxHeartbeats 3200000 in
theorem iput_any (s : Int) (zs cs : List Int) (ao : Option Addr) (cap : Nat) (co : Option Addr) (cc : Nat) (w : World) (ha : Arg w ao cap zs) (hc : Arg w co cc cs) (hn : zs.length ≤ 2097152) (hm : cs.length ≤ 2097152) :
    Calls Try.prog 20 #[.agg #[.int .i64 s, .slice ao zs.length cap], .slice co cs.length cc] w fun e w' => ResW w.heap.size w' e (if vwin zs.length s then s else 0) (if vwin zs.length s then lastN s.toNat (zs ++ cs) else []) ∧ Below w.heap.size w w' := by
  have hb0 : Below w.heap.size w ((w.alloc (.cells #[.int .i64 s, .slice ao zs.length cap] 26)).alloc (.cells #[.int .i64 0, .slice none 0 0] 26)) := ((Below.refl _ _).alloc (Nat.le_refl _) _).alloc (by simp) _
  have hX := (win_new w s (.slice ao zs.length cap) 26).alloc (.cells #[.int .i64 0, .slice none 0 0] 26)
  have hW := win_new (w.alloc (.cells #[.int .i64 s, .slice ao zs.length cap] 26)) 0 (.slice none 0 0) 26
  have HV : Hid _ := ivalid_any ao zs.length cap s
  simp only [World.size_alloc] at hW
  by_cases hv : vwin zs.length s = true
  · obtain ⟨n, rfl, hn0, hn1, hn2⟩ := vwin_nat hv
    simp only [hv, if_true, Int.toNat_natCast]
    have HX := hide1 hX
    have HW := hide1 hW
    have HB := hide1 hb0
    have HA := hide1 ha
    have HC := hide1 hc
    clear ha hc hX hW hb0
    go_enter Try.func20, Try.ntmps20
    go_wp2_with fail
    refine Calls.mono (HV.out _) ?_
    rintro e w1 ⟨rfl, hb1⟩
    rw [hv]
    have HX1 := hide1 (HX.out.below hb1)
    have HW1 := hide1 (HW.out.below hb1)
    have HB1 := hide1 (HB.out.trans (hb1.mono (by simp; omega)))
    have a1 := HA.out.below HB1.out
    have HC1 := hide1 (HC.out.below HB1.out)
    have HN := hide1 (newRing_any n zs ao cap w1 hn0 hn1 a1.row a1.fits a1.most a1.lies)
    obtain ⟨x0, x1⟩ := HX1.out.two
    have z1 := HW1.out.lt
    clear hb1 a1 HV HX HW HB HA HC
    go_wp2_with fail
    refine Calls.mono HN.out ?_
    rintro e w2 ⟨g, rfl, hg1, hg2, ⟨rs, p, c, hr2, hi2⟩, hb2⟩
    have HW2 := hide1 (HW1.out.below (hb2.mono hg1))
    have HB2 := hide1 (HB1.out.trans (hb2.mono (by omega)))
    have hc2 := HC1.out.below (hb2.mono hg1)
    have HP := hide1 (rput_any g rs n p c _ cs co cc w2 hr2 hi2 hn1 hc2.row hc2.fits hc2.most (fun ad e => by have := HC1.out.lies ad e; omega))
    clear HN hr2 hi2 hb2 x0 x1 hc2 HX1 HW1 HB1
    go_wp2_with fail
    refine Calls.mono HP.out ?_
    rintro e w3 ⟨rfl, ⟨rs3, p3, c3, hr3, hi3⟩, hb3⟩
    rw [lastN_lastN] at hi3
    have HW3 := hide1 (HW2.out.under hb3 (by omega))
    have HB3 := hide1 (HB2.out.trans (hb3.mono (by omega)))
    have HWN := hide1 (window_any g rs3 n p3 c3 _ w3 hr3 hi3 hn1)
    have z3 := hr3.lt
    clear HP hr3 hi3 hb3 HW2 HB2
    go_wp2_with fail
    refine Calls.mono HWN.out ?_
    rintro e w4 ⟨ao4, cap4, rfl, ho4, hb4⟩
    obtain ⟨k3, k4⟩ := win_set (HW3.out.below hb4) (n : Int) (.slice ao4 (lastN n (zs ++ cs)).length cap4)
    obtain ⟨x0, x1, f0, f1⟩ := HW3.out.below hb4
    have ho5 := ho4.grown k4 (by intro k e; simp at e; subst e; exact ho4.mine.far (by omega))
    have hb5 := HB3.out.trans (hb4.mono HB3.out.size)
    have hw5 := hb5.grown k4 hb5.size (by intro k e; simp at e; omega)
    obtain ⟨y0, y1, _, _⟩ := k3
    have hz := HB3.out.size
    clear HWN hb4 ho4
    go_wp2_with fail
    exact bodyPost_ret (v := .agg #[.int .i64 n, .slice ao4 (lastN n (zs ++ cs)).length cap4]) (by simp [results, Try.results20, go_sem, y0, y1]) rfl ⟨⟨ao4, cap4, rfl, ho5.mono hz⟩, hw5⟩
  · have hv : vwin zs.length s = false := by simpa using hv
    simp only [hv]
    have HX := hide1 hX
    have HW := hide1 hW
    have HB := hide1 hb0
    clear ha hc hX hW hb0
    go_enter Try.func20, Try.ntmps20
    go_wp2_with fail
    refine Calls.mono (HV.out _) ?_
    rintro e w1 ⟨rfl, hb1⟩
    rw [hv]
    obtain ⟨x0, x1, f0, f1⟩ := HW.out.below hb1
    have hb := HB.out.trans (hb1.mono (by simp; omega))
    obtain ⟨k3, k4⟩ := win_set (HW.out.below hb1) 0 (.slice none 0 0)
    have hb2 := hb.grown k4 hb.size (by intro k e; simp at e; omega)
    obtain ⟨y0, y1, _, _⟩ := k3
    clear hb1
    go_wp2_with fail
    exact bodyPost_ret (v := .agg #[.int .i64 0, .slice none 0 0]) (by simp [results, Try.results20, go_sem, y0, y1]) rfl ⟨ResW.zero _ _, hb2⟩

theorem ownw1 (W : World) (base e g : Nat) (hb : base ≤ W.heap.size) (hg : W.heap.size = g) : (W.alloc (.cells #[] e)).drew.ownsRow base e 1 (.slice (some ⟨g, 0, none⟩) 0 0) 0 [] := by
  subst hg
  exact World.ownsRow_lit W #[] 0 hb (by unfold maxLen; omega) rfl

set_option maxRecDepth 100000 in
set_option maxHeartbeats 6400000 in
theorem sput_any (s : Int) (zs cs : List Int) (ao : Option Addr) (cap : Nat) (co : Option Addr) (cc : Nat) (w : World) (ha : Arg w ao cap zs) (hc : Arg w co cc cs) (hn : zs.length ≤ 2097152) (hm : cs.length ≤ 2097152) :
    Calls Try.prog 18 #[.agg #[.int .i64 s, .slice ao zs.length cap], .slice co cs.length cc] w fun e w' => ResW w.heap.size w' e (if vwin zs.length s then s else 0) (if vwin zs.length s then lastN s.toNat (zs ++ cs) else []) ∧ Below w.heap.size w w' := by
  obtain ⟨i0, hi, hz0, hz1, hz2⟩ := info_parts Try.info_u8s
  have hb0 : Below w.heap.size w ((w.alloc (.cells #[.int .i64 s, .slice ao zs.length cap] 26)).alloc (.cells #[.int .i64 0, .slice none 0 0] 26)) := ((Below.refl _ _).alloc (Nat.le_refl _) _).alloc (by simp) _
  have hX := (win_new w s (.slice ao zs.length cap) 26).alloc (.cells #[.int .i64 0, .slice none 0 0] 26)
  have hW := win_new (w.alloc (.cells #[.int .i64 s, .slice ao zs.length cap] 26)) 0 (.slice none 0 0) 26
  have HV : Hid _ := svalidw_any ao zs.length cap s
  simp only [World.size_alloc] at hW
  by_cases hv : vwin zs.length s = true
  · obtain ⟨n, rfl, hn0, hn1, hn2⟩ := vwin_nat hv
    simp only [hv, if_true, Int.toNat_natCast]
    obtain ⟨D, hD⟩ : ∃ D, zs ++ cs = D := ⟨_, rfl⟩
    have hDL : zs.length + cs.length = D.length := by rw [← hD, List.length_append]
    have hD4 : D.length ≤ 4194304 := by omega
    rw [hD]
    have HD := hide1 hD
    have HDL := hide1 hDL
    clear hD hDL
    have HX := hide1 hX
    have HW := hide1 hW
    have HB := hide1 hb0
    have HA := hide1 ha
    have HC := hide1 hc
    clear ha hc hX hW hb0
    go_enter Try.func18, Try.ntmps18
    go_wp2_with fail
    refine Calls.mono (HV.out _) ?_
    rintro e w1 ⟨rfl, hb1⟩
    rw [hv]
    have HX1 := hide1 (HX.out.below hb1)
    have HW1 := hide1 (HW.out.below hb1)
    have HB1 := hide1 (HB.out.trans (hb1.mono (by simp; omega)))
    have hd1 : Below w1.heap.size w1 ((w1.alloc (.cells #[] 5)).drew) := ((Below.refl _ _).alloc (Nat.le_refl _) _).drew
    have a1 := (HA.out.below HB1.out).below hd1
    have c1 := (HC.out.below HB1.out).below hd1
    have R1 := hide1 a1.row
    have N1 : Hid (ao = none → zs.length = 0 ∧ cap = 0) := fun e => ⟨a1.row.none_len e, a1.bare e⟩
    have HCW := hide1 (HC.out.below HB1.out)
    have N2 : Hid (co = none → cs.length = 0 ∧ cc = 0) := fun e => ⟨c1.row.none_len e, c1.bare e⟩
    obtain ⟨x0, x1⟩ := HX1.out.two
    have z1 := HW1.out.lt
    have HD1 := hide1 hd1
    clear hb1 a1 c1 HV HX HW HB HA HC hd1
    go_wp2_with fail
    go_region_held3 (fun w' => w'.cell? ⟨w.heap.size, 0, none⟩ = some (.int .i64 n) ∧ w'.cell? ⟨w.heap.size, 1, none⟩ = some (.slice ao zs.length cap))
      (first | (refine ⟨?_, ?_⟩ <;> assumption) | (go_keep; done) | (simp [*]; done) | (simp [*, go_sem]; done))
      (first | (go_at_call 45; refine (l4Last_any n D ao5 cap5 w5 ho5.mine.arg hn0 hn1 hD4).mono ?_; rintro e w6 ⟨ao6, cap6, rfl, ho6, hb6⟩; obtain ⟨_, _⟩ := ((HX1.out.below hb5).below hb6).two; obtain ⟨_, _, _, _⟩ := ((HW1.out.below hb5).below hb6))
             | (refine step_append_row _ (by rfl) _ _ _ (by rfl) w1.heap.size 5 i0 (.int .u8 0) 1 Try.underlying22 hi hz0 hz1 hz2 rfl (.slice ao4 zs.length cap4) zs.length (zs.map (Value.int .u8)) (by rfl) ho4 co cc cs (by rfl) (HCW.out.row.below hb4) N2.out (by unfold maxLen; omega) (by omega) hb4.size ?_; intro v5 w5 hown5 hgrow5 hat5; rw [← List.map_append, HD.out, HDL.out] at hown5; obtain ⟨ao5, cap5, e5, ho5⟩ := OwnsB.of hown5; subst e5; have hb5 : Below w1.heap.size w1 w5 := hb4.grown hgrow5 hb4.size (by intro k e; rcases Nat.lt_or_ge k w1.heap.size with h | h; exact absurd e.symm (OwnsB.block ho4 h); exact h); obtain ⟨_, _⟩ := (HX1.out.below hb5).two)
             | (refine step_append_row _ (by rfl) _ _ _ (by rfl) w1.heap.size 5 i0 (.int .u8 0) 1 Try.underlying22 hi hz0 hz1 hz2 rfl (.slice (some ⟨w1.heap.size, 0, none⟩) 0 0) 0 [] (by rfl) (ownw1 _ _ _ _ (by simp) (by simp)) ao cap zs (by rfl) R1.out N1.out (by unfold maxLen; omega) (by omega) (by simp) ?_; intro v4 w4 hown4 hgrow4 hat4; obtain ⟨ao4, cap4, e4, ho4⟩ := OwnsB.of hown4; subst e4; have hb4 : Below w1.heap.size w1 w4 := HD1.out.grown hgrow4 HD1.out.size (by intro k e; simp [Value.ownBlock] at e; omega); obtain ⟨_, _⟩ := (HX1.out.below hb4).two))
    have hb16 : Below w1.heap.size w1 w6 := hb5.trans (hb6.mono hb5.size)
    obtain ⟨k3, k4⟩ := win_set (HW1.out.below hb16) (n : Int) (.slice ao6 (lastN n D).length cap6)
    have ho7 := ho6.grown k4 (by intro k e; simp at e; subst e; exact ho6.mine.far (by have := hb5.size; omega))
    have hw6 := HB1.out.trans (hb16.mono HB1.out.size)
    have hw7 := hw6.grown k4 hw6.size (by intro k e; simp at e; omega)
    obtain ⟨y0, y1, _, _⟩ := k3
    have hz := HB1.out.size
    have hz5 := hb5.size
    clear hown4 hgrow4 hat4 hown5 hgrow5 hat5 k4
    go_wp2_with fail
    exact bodyPost_ret (v := .agg #[.int .i64 n, .slice ao6 (lastN n D).length cap6]) (by simp [results, Try.results18, go_sem, y0, y1]) rfl ⟨⟨ao6, cap6, rfl, ho7.mono (by omega)⟩, hw7⟩
  · have hv : vwin zs.length s = false := by simpa using hv
    simp only [hv]
    have HX := hide1 hX
    have HW := hide1 hW
    have HB := hide1 hb0
    clear ha hc hX hW hb0
    go_enter Try.func18, Try.ntmps18
    go_wp2_with fail
    refine Calls.mono (HV.out _) ?_
    rintro e w1 ⟨rfl, hb1⟩
    rw [hv]
    obtain ⟨x0, x1, f0, f1⟩ := HW.out.below hb1
    have hb := HB.out.trans (hb1.mono (by simp; omega))
    obtain ⟨k3, k4⟩ := win_set (HW.out.below hb1) 0 (.slice none 0 0)
    have hb2 := hb.grown k4 hb.size (by intro k e; simp at e; omega)
    obtain ⟨y0, y1, _, _⟩ := k3
    clear hb1
    go_wp2_with fail
    exact bodyPost_ret (v := .agg #[.int .i64 0, .slice none 0 0]) (by simp [results, Try.results18, go_sem, y0, y1]) rfl ⟨ResW.zero _ _, hb2⟩

end Go.Proofs.Ytjknaigdlkpiaaa
