import Derived.Test.YtmfacacpoajpgabBytes
import Derived.Test.YtmfacacpoajpgabSpc
namespace Go.Proofs.Ytmfacacpoajpgab
open Go.RowKit
attribute [local go_sem ↓] Go.wp_at_zero Go.wp_at_succ

theorem own00 (W : World) (base e g : Nat) (hb : base ≤ W.heap.size) (hg : W.heap.size = g) : (W.alloc (.cells #[] e)).ownsRow base e 1 (.slice (some ⟨g, 0, none⟩) 0 0) 0 [] := by
  subst hg
  exact World.ownsRow_lit W #[] 0 hb (by unfold maxLen; omega) rfl

theorem l2Skip_bytes (ao : Option Addr) (cap : Nat) (zs : List Int) (u : Int) (M : Nat) (w : World) (hr : Row w ao zs) (hfit : zs.length ≤ cap) (hnil : ao = none → zs.length = 0 ∧ cap = 0) (hn : zs.length ≤ 1000000) (u0 : 0 ≤ u) (u1 : u ≤ 34359738368) (hM : M ≤ zs.length) :
    Calls Try.prog 49 #[.agg #[.slice ao zs.length cap, .int .i64 0, .int .i64 u], .int .i64 (8 * (M : Int))] w fun e w' => ResB w.heap.size w' e (zs.drop M) 0 (u + 8 * M) ∧ Below w.heap.size w w' := by
  have h := l2Skip_any ao cap zs 0 u (8 * M) w hr hfit hnil hn (by decide) (by decide) u0 u1 (by omega) (by omega)
  rw [show (0 + 8 * (M : Int)) / 8 = (M : Int) by omega, show (0 + 8 * (M : Int)) % 8 = 0 by omega, Int.toNat_natCast] at h
  exact h

/-- Bytes that lie in blocks of the heap as it was stay while a new block is written. -/
theorem Row.grown' {w w' : World} {ao : Option Addr} {zs : List Int} (h : Row w ao zs) (hg : w.grownBy w' (some w.heap.size)) : Row w' ao zs := by
  intro i hi
  obtain ⟨b, off, rfl, hc⟩ := h i hi
  have hb : b < w.heap.size := World.block_lt_of_cell? w _ hc
  exact ⟨b, off, rfl, hg.cell hc (by simp; omega)⟩

set_option maxRecDepth 100000 in
set_option maxHeartbeats 1000000 in
/-- spec.BitsBytes, Ok. -/
theorem sbytes_yes (ao : Option Addr) (cap : Nat) (zs : List Int) (u : Int) (M : Nat) (w : World) (hr : Row w ao zs) (hfit : zs.length ≤ cap) (hnil : ao = none → zs.length = 0 ∧ cap = 0) (hv : vld zs.length 0 u = true) (hcut : M ≤ zs.length) (hh : hasB zs.length 0 u (8 * M) = true) :
    Calls Try.prog 26 #[.agg #[.slice ao zs.length cap, .int .i64 0, .int .i64 u], .int .i64 M] w fun e w' =>
      ResY w.heap.size w' e true (zs.take M) (zs.drop M) 0 (u + 8 * M) ∧ Below w.heap.size w w' := by
  obtain ⟨i0, hi, hz0, hz1i, hz2i⟩ := info_parts Try.info_u8s
  obtain ⟨a0, a7, al, hl, u0, u1, um⟩ := vld_out hv
  have HV : Hid (vld zs.length 0 u = true) := hv
  have HH : Hid (hasB zs.length 0 u (8 * M) = true) := hh
  have HN : Hid (ao = none → zs.length = 0 ∧ cap = 0) := hnil
  clear al um hv hh hnil
  have hMl : (M : Int) ≤ (zs.length : Int) := by omega
  have hM0 : (0 : Int) ≤ (M : Int) := by omega
  have hMc : (M : Int) ≤ (cap : Int) := by omega
  have hw8 : IntKind.i64.wrap (8 * (M : Int)) = 8 * (M : Int) := by rw [IntKind.wrap_i64]; omega
  have hlt : (zs.take M).length = M := by rw [List.length_take]; omega
  go_enter Try.func26, Try.ntmps26
  go_wp2_with fail
  refine (svalid_any ao zs.length cap 0 u _).mono ?_
  rintro e w1 ⟨rfl, hb1⟩
  have hres1 := (five_new (w.alloc (.cells #[.slice ao zs.length cap, .int .i64 0, .int .i64 u] 26)) (.bool false) (.slice none 0 0) (.slice none 0 0) (.int .i64 0) (.int .i64 0) 45).grown (grownBy_of_below hb1 none) (by simp)
  have harg1 := ((src_new w (.slice ao zs.length cap) 0 u 26).grown (World.grownBy_alloc _ (.cells #[.bool false, .slice none 0 0, .slice none 0 0, .int .i64 0, .int .i64 0] 45) none) (by simp)).grown (grownBy_of_below hb1 none) (by simp)
  simp only [World.size_alloc] at hres1
  have harg1' := harg1
  obtain ⟨g0, g1, g2, _, _, _⟩ := harg1'
  have hz1 : w.heap.size + 1 < w1.heap.size := by have := hb1.size; simp at this; omega
  have hbl1 : Below w.heap.size w w1 := (((Below.refl w.heap.size w).alloc (Nat.le_refl _) _).alloc (by simp) _).trans (hb1.mono (by simp; omega))
  rw [HV.out]
  clear hb1
  go_wp2_with fail
  refine (l2Has_any ao zs.length cap 0 u (8 * M) w1 hl a0 a7 u0 u1 (by omega) (by omega)).mono ?_
  rintro e w2 ⟨rfl, hb2⟩
  have hres2 := hres1.grown (grownBy_of_below hb2 none) (by simp)
  have harg2 := harg1.grown (grownBy_of_below hb2 none) (by simp)
  have hbl2 := hbl1.trans (hb2.mono (by omega))
  have hz2 := hb2.size
  have hr2 := hr.below hbl2
  have hrt2 : Row w2 ao (zs.take M) := by
    intro i hi
    rw [hlt] at hi
    obtain ⟨b, off, e, hc⟩ := hr2 i (by omega)
    refine ⟨b, off, e, ?_⟩
    rw [hc]
    simp [List.getD, hi]
  have HNT : Hid (ao = none → (zs.take M).length = 0 ∧ cap = 0) := fun e => ⟨by have := (HN.out e).1; omega, (HN.out e).2⟩
  clear g0 g1 g2 harg1 hres1 hbl1 hb2 hr
  have harg2' := harg2
  obtain ⟨g0, g1, g2, gf0, gf1, gf2⟩ := harg2'
  rw [HH.out]
  generalize hzt : zs.take M = zt at *
  have HZT : Hid (zs.take M = zt) := hzt
  have HLT : Hid (zt.length = M) := hlt
  clear hzt
  go_wp2_with fail
  go_region_held3 (fun w' => w'.cell? ⟨w.heap.size, 0, none⟩ = some (.slice ao zs.length cap) ∧ w'.cell? ⟨w.heap.size, 1, none⟩ = some (.int .i64 0) ∧ w'.cell? ⟨w.heap.size, 2, none⟩ = some (.int .i64 u))
    (first | (rw [HC3.1.out, HC3.2.1.out, HC3.2.2.out]; simp; done) | (go_keep; done))
    (first
      | (go_at_call 49; refine (l2Skip_bytes ao cap zs u M w3 (hr2.grown' hg3) hfit HN.out hl u0 u1 hcut).mono ?_; rintro e w4 ⟨⟨ao4, cap4, rfl, hm4⟩, hb4⟩; generalize hzd : zs.drop M = zd at hm4 ⊢; have HZD : Hid (zs.drop M = zd) := hzd; clear hzd; have harg4 := (harg2.grown hg3 (by simp; omega)).grown (grownBy_of_below hb4 none) (by simp); have hres4 := (hres2.grown hg3 (by simp; omega)).grown (grownBy_of_below hb4 none) (by simp); have HC3 : Hid (w4.cell? ⟨w.heap.size, 0, none⟩ = some (.slice ao zs.length cap)) ∧ Hid (w4.cell? ⟨w.heap.size, 1, none⟩ = some (.int .i64 0)) ∧ Hid (w4.cell? ⟨w.heap.size, 2, none⟩ = some (.int .i64 u)) := ⟨harg4.1, harg4.2.1, harg4.2.2.1⟩; obtain ⟨⟨_, _, _, _, _⟩, _, _, _, _, _⟩ := hres4)
      | (refine step_append_row _ (by rfl) _ _ _ (by rfl) w2.heap.size 5 i0 (.int .u8 0) 1 Try.underlying22 hi hz0 hz1i hz2i rfl (.slice (some ⟨w2.heap.size, 0, none⟩) 0 0) 0 [] (by rfl) (own0 _ _ _ _ (by simp) (by simp)) ao cap zt (by first | rfl | (rw [hlt]; rfl)) (hrt2.below ((Below.refl _ _).alloc (Nat.le_refl _) _).drew) HNT.out (by unfold maxLen; omega) (by omega) (by simp) ?_; intro v' w3 hown hgrow hat; obtain ⟨bo, bc, e', ho3⟩ := OwnsB.of hown; subst e'; have hg3 : w2.grownBy w3 (some w2.heap.size) := grownBy_trans (grownBy_of_below (((Below.refl _ _).alloc (Nat.le_refl _) _).drew) _) hgrow; have harg3 := harg2.grown hg3 (by simp; omega); have HC3 : Hid (w3.cell? ⟨w.heap.size, 0, none⟩ = some (.slice ao zs.length cap)) ∧ Hid (w3.cell? ⟨w.heap.size, 1, none⟩ = some (.int .i64 0)) ∧ Hid (w3.cell? ⟨w.heap.size, 2, none⟩ = some (.int .i64 u)) := ⟨harg3.1, harg3.2.1, harg3.2.2.1⟩))
  have hres4 := (hres2.grown hg3 (by simp; omega)).grown (grownBy_of_below hb4 none) (by simp)
  have hz3 : w2.heap.size ≤ w3.heap.size := hg3.size
  have hbl4 := (hbl2.grown hg3 (by omega) (by intro k e; simp at e; omega)).trans (hb4.mono (by omega))
  have hd3 := ho3.mine
  have hdis : ∀ k, blk bo = some k → blk ao4 ≠ some k := by
    intro k e
    refine hm4.far ?_
    cases bo with
    | none => cases e
    | some ad => have := (hd3.lies ad rfl).2.1; simp [blk] at e; omega
  have hd4 := hd3.below hb4
  obtain ⟨k1, k2, k3⟩ := five_set hres4 (.bool true) (.slice bo M bc) (.slice ao4 zd.length cap4) (.int .i64 0) (.int .i64 (u + 8 * M))
  have hm5 := hm4.grown k2 (by intro k e; simp at e; subst e; exact hm4.far (by omega))
  have hd5 := hd4.grown k2 (by intro k e; simp at e; subst e; exact hd4.far (by omega))
  have hbl5 := hbl4.grown k2 (by have := hb4.size; omega) (by intro k e; simp at e; omega)
  obtain ⟨x0, x1, x2, x3, x4⟩ := k1.all
  clear hgrow hown hat hg3 harg3 harg4 harg2 hres2 hres4 hbl2 hbl4 hd3 hd4 k1 k2 k3 hb4 ho3 hm4 hr2 hrt2 HC3
  unfold five at *
  go_wp2_with fail
  exact bodyPost_ret (v := .agg #[.bool true, .slice bo M bc, .slice ao4 zd.length cap4, .int .i64 0, .int .i64 (u + 8 * M)]) (by simp [results, Try.results26, go_sem, x0, x1, x2, x3, x4]) rfl ⟨by rw [HZT.out, HZD.out]; exact ⟨bo, bc, ao4, cap4, by rw [HLT.out], hd5.mono (by omega), hm5.mono (by omega), hdis⟩, hbl5⟩

set_option maxRecDepth 100000 in
set_option maxHeartbeats 3200000 in
theorem sbytes_no1 (ao : Option Addr) (cap : Nat) (zs : List Int) (a u n : Int) (w : World) (hr : Row w ao zs) (hnil : ao = none → zs.length = 0 ∧ cap = 0) (hv : vld zs.length a u = true) (h : a ≠ 0) :
    Calls Try.prog 26 #[.agg #[.slice ao zs.length cap, .int .i64 a, .int .i64 u], .int .i64 n] w fun e w' =>
      ResY w.heap.size w' e false [] zs a u ∧ Below w.heap.size w w' := by
  obtain ⟨a0, a7, al, hl, u0, u1, um⟩ := vld_out hv
  have HV : Hid (vld zs.length a u = true) := hv
  have HN : Hid (ao = none → zs.length = 0 ∧ cap = 0) := hnil
  clear al um hv hnil
  have hb : (a != 0) = true := by simpa using h
  clear h
  go_enter Try.func26, Try.ntmps26
  go_wp2_with fail
  refine (svalid_any ao zs.length cap a u _).mono ?_
  rintro e w1 ⟨rfl, hb1⟩
  have hres1 := (five_new (w.alloc (.cells #[.slice ao zs.length cap, .int .i64 a, .int .i64 u] 26)) (.bool false) (.slice none 0 0) (.slice none 0 0) (.int .i64 0) (.int .i64 0) 45).grown (grownBy_of_below hb1 none) (by simp)
  have harg1 := ((src_new w (.slice ao zs.length cap) a u 26).grown (World.grownBy_alloc _ (.cells #[.bool false, .slice none 0 0, .slice none 0 0, .int .i64 0, .int .i64 0] 45) none) (by simp)).grown (grownBy_of_below hb1 none) (by simp)
  simp only [World.size_alloc] at hres1
  have harg1' := harg1
  obtain ⟨g0, g1, g2, _, _, _⟩ := harg1'
  have hz1 : w.heap.size + 1 < w1.heap.size := by have := hb1.size; simp at this; omega
  have hbl1 : Below w.heap.size w w1 := (((Below.refl w.heap.size w).alloc (Nat.le_refl _) _).alloc (by simp) _).trans (hb1.mono (by simp; omega))
  rw [HV.out]
  clear hb1
  go_wp2_with fail
  refine (l2Copy_any ao cap zs a u w1 (hr.below hbl1) HN.out (by omega)).mono ?_
  rintro e w2 ⟨⟨ao2, cap2, rfl, hm2⟩, hb2⟩
  have hres2 := hres1.grown (grownBy_of_below hb2 none) (by simp)
  have hbl2 := hbl1.trans (hb2.mono (by omega))
  obtain ⟨k1, k2, k3⟩ := five_set hres2 (.bool false) (.slice none 0 0) (.slice ao2 zs.length cap2) (.int .i64 a) (.int .i64 u)
  have hm5 := hm2.grown k2 (by intro k e; simp at e; subst e; exact hm2.far (by omega))
  have hbl5 := hbl2.grown k2 (by have := hb2.size; omega) (by intro k e; simp at e; omega)
  obtain ⟨⟨r0, r1, r2, r3, r4⟩, q0, q1, q2, q3, q4⟩ := hres2
  obtain ⟨x0, x1, x2, x3, x4⟩ := k1.all
  clear g0 g1 g2 harg1 hr hres1 hbl1 hbl2 hb2 k1 k2 k3 hm2
  unfold five at *
  go_wp2_with fail
  exact bodyPost_ret (v := .agg #[.bool false, .slice none 0 0, .slice ao2 zs.length cap2, .int .i64 a, .int .i64 u]) (by simp [results, Try.results26, go_sem, x0, x1, x2, x3, x4]) rfl ⟨⟨none, 0, ao2, cap2, rfl, Mine.nothing _ _, hm5.mono (by omega), fun k e => by cases e⟩, hbl5⟩

set_option maxRecDepth 100000 in
set_option maxHeartbeats 3200000 in
theorem sbytes_no2 (ao : Option Addr) (cap : Nat) (zs : List Int) (u n : Int) (w : World) (hr : Row w ao zs) (hnil : ao = none → zs.length = 0 ∧ cap = 0) (hv : vld zs.length 0 u = true) (h : n < 0) :
    Calls Try.prog 26 #[.agg #[.slice ao zs.length cap, .int .i64 0, .int .i64 u], .int .i64 n] w fun e w' =>
      ResY w.heap.size w' e false [] zs 0 u ∧ Below w.heap.size w w' := by
  obtain ⟨a0, a7, al, hl, u0, u1, um⟩ := vld_out hv
  have HV : Hid (vld zs.length 0 u = true) := hv
  have HN : Hid (ao = none → zs.length = 0 ∧ cap = 0) := hnil
  clear al um hv hnil
  go_enter Try.func26, Try.ntmps26
  go_wp2_with fail
  refine (svalid_any ao zs.length cap 0 u _).mono ?_
  rintro e w1 ⟨rfl, hb1⟩
  have hres1 := (five_new (w.alloc (.cells #[.slice ao zs.length cap, .int .i64 0, .int .i64 u] 26)) (.bool false) (.slice none 0 0) (.slice none 0 0) (.int .i64 0) (.int .i64 0) 45).grown (grownBy_of_below hb1 none) (by simp)
  have harg1 := ((src_new w (.slice ao zs.length cap) 0 u 26).grown (World.grownBy_alloc _ (.cells #[.bool false, .slice none 0 0, .slice none 0 0, .int .i64 0, .int .i64 0] 45) none) (by simp)).grown (grownBy_of_below hb1 none) (by simp)
  simp only [World.size_alloc] at hres1
  have harg1' := harg1
  obtain ⟨g0, g1, g2, _, _, _⟩ := harg1'
  have hz1 : w.heap.size + 1 < w1.heap.size := by have := hb1.size; simp at this; omega
  have hbl1 : Below w.heap.size w w1 := (((Below.refl w.heap.size w).alloc (Nat.le_refl _) _).alloc (by simp) _).trans (hb1.mono (by simp; omega))
  rw [HV.out]
  clear hb1
  go_wp2_with fail
  refine (l2Copy_any ao cap zs 0 u w1 (hr.below hbl1) HN.out (by omega)).mono ?_
  rintro e w2 ⟨⟨ao2, cap2, rfl, hm2⟩, hb2⟩
  have hres2 := hres1.grown (grownBy_of_below hb2 none) (by simp)
  have hbl2 := hbl1.trans (hb2.mono (by omega))
  obtain ⟨k1, k2, k3⟩ := five_set hres2 (.bool false) (.slice none 0 0) (.slice ao2 zs.length cap2) (.int .i64 0) (.int .i64 u)
  have hm5 := hm2.grown k2 (by intro k e; simp at e; subst e; exact hm2.far (by omega))
  have hbl5 := hbl2.grown k2 (by have := hb2.size; omega) (by intro k e; simp at e; omega)
  obtain ⟨⟨r0, r1, r2, r3, r4⟩, q0, q1, q2, q3, q4⟩ := hres2
  obtain ⟨x0, x1, x2, x3, x4⟩ := k1.all
  clear g0 g1 g2 harg1 hr hres1 hbl1 hbl2 hb2 k1 k2 k3 hm2
  unfold five at *
  go_wp2_with fail
  exact bodyPost_ret (v := .agg #[.bool false, .slice none 0 0, .slice ao2 zs.length cap2, .int .i64 0, .int .i64 u]) (by simp [results, Try.results26, go_sem, x0, x1, x2, x3, x4]) rfl ⟨⟨none, 0, ao2, cap2, rfl, Mine.nothing _ _, hm5.mono (by omega), fun k e => by cases e⟩, hbl5⟩

set_option maxRecDepth 100000 in
set_option maxHeartbeats 3200000 in
theorem sbytes_no3 (ao : Option Addr) (cap : Nat) (zs : List Int) (u n : Int) (w : World) (hr : Row w ao zs) (hnil : ao = none → zs.length = 0 ∧ cap = 0) (hv : vld zs.length 0 u = true) (h0 : 0 ≤ n) (h : (zs.length : Int) < n) :
    Calls Try.prog 26 #[.agg #[.slice ao zs.length cap, .int .i64 0, .int .i64 u], .int .i64 n] w fun e w' =>
      ResY w.heap.size w' e false [] zs 0 u ∧ Below w.heap.size w w' := by
  obtain ⟨a0, a7, al, hl, u0, u1, um⟩ := vld_out hv
  have HV : Hid (vld zs.length 0 u = true) := hv
  have HN : Hid (ao = none → zs.length = 0 ∧ cap = 0) := hnil
  clear al um hv hnil
  have h' : ¬ n < 0 := by omega
  go_enter Try.func26, Try.ntmps26
  go_wp2_with fail
  refine (svalid_any ao zs.length cap 0 u _).mono ?_
  rintro e w1 ⟨rfl, hb1⟩
  have hres1 := (five_new (w.alloc (.cells #[.slice ao zs.length cap, .int .i64 0, .int .i64 u] 26)) (.bool false) (.slice none 0 0) (.slice none 0 0) (.int .i64 0) (.int .i64 0) 45).grown (grownBy_of_below hb1 none) (by simp)
  have harg1 := ((src_new w (.slice ao zs.length cap) 0 u 26).grown (World.grownBy_alloc _ (.cells #[.bool false, .slice none 0 0, .slice none 0 0, .int .i64 0, .int .i64 0] 45) none) (by simp)).grown (grownBy_of_below hb1 none) (by simp)
  simp only [World.size_alloc] at hres1
  have harg1' := harg1
  obtain ⟨g0, g1, g2, _, _, _⟩ := harg1'
  have hz1 : w.heap.size + 1 < w1.heap.size := by have := hb1.size; simp at this; omega
  have hbl1 : Below w.heap.size w w1 := (((Below.refl w.heap.size w).alloc (Nat.le_refl _) _).alloc (by simp) _).trans (hb1.mono (by simp; omega))
  rw [HV.out]
  clear hb1
  go_wp2_with fail
  refine (l2Copy_any ao cap zs 0 u w1 (hr.below hbl1) HN.out (by omega)).mono ?_
  rintro e w2 ⟨⟨ao2, cap2, rfl, hm2⟩, hb2⟩
  have hres2 := hres1.grown (grownBy_of_below hb2 none) (by simp)
  have hbl2 := hbl1.trans (hb2.mono (by omega))
  obtain ⟨k1, k2, k3⟩ := five_set hres2 (.bool false) (.slice none 0 0) (.slice ao2 zs.length cap2) (.int .i64 0) (.int .i64 u)
  have hm5 := hm2.grown k2 (by intro k e; simp at e; subst e; exact hm2.far (by omega))
  have hbl5 := hbl2.grown k2 (by have := hb2.size; omega) (by intro k e; simp at e; omega)
  obtain ⟨⟨r0, r1, r2, r3, r4⟩, q0, q1, q2, q3, q4⟩ := hres2
  obtain ⟨x0, x1, x2, x3, x4⟩ := k1.all
  clear g0 g1 g2 harg1 hr hres1 hbl1 hbl2 hb2 k1 k2 k3 hm2
  unfold five at *
  go_wp2_with fail
  exact bodyPost_ret (v := .agg #[.bool false, .slice none 0 0, .slice ao2 zs.length cap2, .int .i64 0, .int .i64 u]) (by simp [results, Try.results26, go_sem, x0, x1, x2, x3, x4]) rfl ⟨⟨none, 0, ao2, cap2, rfl, Mine.nothing _ _, hm5.mono (by omega), fun k e => by cases e⟩, hbl5⟩

set_option maxRecDepth 100000 in
set_option maxHeartbeats 3200000 in
theorem sbytes_no4 (ao : Option Addr) (cap : Nat) (zs : List Int) (u n : Int) (w : World) (hr : Row w ao zs) (hnil : ao = none → zs.length = 0 ∧ cap = 0) (hv : vld zs.length 0 u = true) (h0 : 0 ≤ n) (h1 : n ≤ zs.length) (h2 : hasB zs.length 0 u (8 * n) = false) :
    Calls Try.prog 26 #[.agg #[.slice ao zs.length cap, .int .i64 0, .int .i64 u], .int .i64 n] w fun e w' =>
      ResY w.heap.size w' e false [] zs 0 u ∧ Below w.heap.size w w' := by
  obtain ⟨a0, a7, al, hl, u0, u1, um⟩ := vld_out hv
  have HV : Hid (vld zs.length 0 u = true) := hv
  have HN : Hid (ao = none → zs.length = 0 ∧ cap = 0) := hnil
  clear al um hv hnil
  have HB : Hid (hasB zs.length 0 u (8 * n) = false) := h2
  clear h2
  go_enter Try.func26, Try.ntmps26
  go_wp2_with fail
  refine (svalid_any ao zs.length cap 0 u _).mono ?_
  rintro e w1 ⟨rfl, hb1⟩
  have hres1 := (five_new (w.alloc (.cells #[.slice ao zs.length cap, .int .i64 0, .int .i64 u] 26)) (.bool false) (.slice none 0 0) (.slice none 0 0) (.int .i64 0) (.int .i64 0) 45).grown (grownBy_of_below hb1 none) (by simp)
  have harg1 := ((src_new w (.slice ao zs.length cap) 0 u 26).grown (World.grownBy_alloc _ (.cells #[.bool false, .slice none 0 0, .slice none 0 0, .int .i64 0, .int .i64 0] 45) none) (by simp)).grown (grownBy_of_below hb1 none) (by simp)
  simp only [World.size_alloc] at hres1
  have harg1' := harg1
  obtain ⟨g0, g1, g2, _, _, _⟩ := harg1'
  have hz1 : w.heap.size + 1 < w1.heap.size := by have := hb1.size; simp at this; omega
  have hbl1 : Below w.heap.size w w1 := (((Below.refl w.heap.size w).alloc (Nat.le_refl _) _).alloc (by simp) _).trans (hb1.mono (by simp; omega))
  rw [HV.out]
  clear hb1
  go_wp2_with fail
  refine (l2Has_any ao zs.length cap 0 u (8 * n) w1 hl a0 a7 u0 u1 (by omega) (by omega)).mono ?_
  rintro e w1' ⟨rfl, hb1'⟩
  have hres1' := hres1.grown (grownBy_of_below hb1' none) (by simp)
  have harg2 := harg1.grown (grownBy_of_below hb1' none) (by simp)
  have hbl1' := hbl1.trans (hb1'.mono (by omega))
  have hz1' := hb1'.size
  clear g0 g1 g2 harg1 hres1 hbl1 hb1'
  obtain ⟨g0, g1, g2, _, _, _⟩ := harg2
  rw [HB.out]
  go_wp2_with fail
  refine (l2Copy_any ao cap zs 0 u w1' (hr.below hbl1') HN.out (by omega)).mono ?_
  rintro e w2 ⟨⟨ao2, cap2, rfl, hm2⟩, hb2⟩
  have hres2 := hres1'.grown (grownBy_of_below hb2 none) (by simp)
  have hbl2 := hbl1'.trans (hb2.mono (by omega))
  obtain ⟨k1, k2, k3⟩ := five_set hres2 (.bool false) (.slice none 0 0) (.slice ao2 zs.length cap2) (.int .i64 0) (.int .i64 u)
  have hm5 := hm2.grown k2 (by intro k e; simp at e; subst e; exact hm2.far (by omega))
  have hbl5 := hbl2.grown k2 (by have := hb2.size; omega) (by intro k e; simp at e; omega)
  obtain ⟨⟨r0, r1, r2, r3, r4⟩, q0, q1, q2, q3, q4⟩ := hres2
  obtain ⟨x0, x1, x2, x3, x4⟩ := k1.all
  clear g0 g1 g2 hr hres1' hbl1' hbl2 hb2 k1 k2 k3 hm2
  unfold five at *
  go_wp2_with fail
  exact bodyPost_ret (v := .agg #[.bool false, .slice none 0 0, .slice ao2 zs.length cap2, .int .i64 0, .int .i64 u]) (by simp [results, Try.results26, go_sem, x0, x1, x2, x3, x4]) rfl ⟨⟨none, 0, ao2, cap2, rfl, Mine.nothing _ _, hm5.mono (by omega), fun k e => by cases e⟩, hbl5⟩

set_option maxRecDepth 100000 in
set_option maxHeartbeats 3200000 in
/-- spec.BitsBytes. -/
theorem sbitsBytes_any (ao : Option Addr) (cap : Nat) (zs : List Int) (a u n : Int) (w : World) (hr : Row w ao zs) (hfit : zs.length ≤ cap) (hnil : ao = none → zs.length = 0 ∧ cap = 0) :
    Calls Try.prog 26 #[.agg #[.slice ao zs.length cap, .int .i64 a, .int .i64 u], .int .i64 n] w fun e w' =>
      ResY w.heap.size w' e (byB zs a u n) (byD zs a u n) (byZ zs a u n) (byA zs a u n) (byU zs a u n) ∧ Below w.heap.size w w' := by
  by_cases hv : vld zs.length a u = true
  · cases hok : byOk zs a u n
    · have H1 : byB zs a u n = false := by simp [byB, hv, hok]
      have H2 : byD zs a u n = [] := by simp [byD, hv, hok]
      have H3 : byZ zs a u n = zs := by simp [byZ, hv, hok]
      have H4 : byA zs a u n = a := by simp [byA, hv, hok]
      have H5 : byU zs a u n = u := by simp [byU, hv, hok]
      rw [H1, H2, H3, H4, H5]
      rcases byOk_no hok with h | ⟨rfl, h⟩ | ⟨rfl, h0, h⟩ | ⟨rfl, h0, h1, h2⟩
      · exact sbytes_no1 ao cap zs a u n w hr hnil hv h
      · exact sbytes_no2 ao cap zs u n w hr hnil hv h
      · exact sbytes_no3 ao cap zs u n w hr hnil hv h0 h
      · exact sbytes_no4 ao cap zs u n w hr hnil hv h0 h1 h2
    · obtain ⟨rfl, n0, n1, hh⟩ := of_decide_eq_true hok
      obtain ⟨M, rfl⟩ := Int.eq_ofNat_of_zero_le n0
      have H1 : byB zs 0 u M = true := by simp [byB, hv, hok]
      have H2 : byD zs 0 u M = zs.take M := by simp [byD, hv, hok]
      have H3 : byZ zs 0 u M = zs.drop M := by simp [byZ, hv, hok]
      have H4 : byA zs 0 u M = 0 := by simp [byA, hok]
      have H5 : byU zs 0 u M = u + 8 * M := by simp [byU, hv, hok]
      rw [H1, H2, H3, H4, H5]
      exact sbytes_yes ao cap zs u M w hr hfit hnil hv (by omega) hh
  · have HV : Hid (vld zs.length a u = false) := Bool.eq_false_iff.2 hv
    have H1 : Hid (byB zs a u n = false) := if_neg hv
    have H2 : Hid (byD zs a u n = []) := if_neg hv
    have H3 : Hid (byZ zs a u n = []) := if_neg hv
    have H4 : Hid (byA zs a u n = 0) := if_neg hv
    have H5 : Hid (byU zs a u n = 0) := if_neg hv
    clear hv
    go_enter Try.func26, Try.ntmps26
    go_wp2_with fail
    refine (svalid_any ao zs.length cap a u _).mono ?_
    rintro e w1 ⟨rfl, hb1⟩
    have hres1 := (five_new (w.alloc (.cells #[.slice ao zs.length cap, .int .i64 a, .int .i64 u] 26)) (.bool false) (.slice none 0 0) (.slice none 0 0) (.int .i64 0) (.int .i64 0) 45).grown (grownBy_of_below hb1 none) (by simp)
    simp only [World.size_alloc] at hres1
    have hz1 : w.heap.size + 1 < w1.heap.size := by have := hb1.size; simp at this; omega
    have hbl1 : Below w.heap.size w w1 := (((Below.refl w.heap.size w).alloc (Nat.le_refl _) _).alloc (by simp) _).trans (hb1.mono (by simp; omega))
    obtain ⟨k1, k2, k3⟩ := five_set hres1 (.bool false) (.slice none 0 0) (.slice none 0 0) (.int .i64 0) (.int .i64 0)
    have hbl5 := hbl1.grown k2 (by omega) (by intro k e; simp at e; omega)
    obtain ⟨⟨r0, r1, r2, r3, r4⟩, q0, q1, q2, q3, q4⟩ := hres1
    obtain ⟨x0, x1, x2, x3, x4⟩ := k1.all
    rw [HV.out]
    clear hb1 hr k1 k2 k3 hnil
    unfold five at *
    go_wp2_with fail
    exact bodyPost_ret (v := .agg #[.bool false, .slice none 0 0, .slice none 0 0, .int .i64 0, .int .i64 0]) (by simp [results, Try.results26, go_sem, x0, x1, x2, x3, x4]) rfl ⟨by rw [H1.out, H2.out, H3.out, H4.out, H5.out]; exact ⟨none, 0, none, 0, rfl, Mine.nothing _ _, Mine.nothing _ _, fun k e => by cases e⟩, hbl5⟩
end Go.Proofs.Ytmfacacpoajpgab
