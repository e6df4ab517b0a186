import Derived.Test.YtmfacacpoajpgabTakeI
import Derived.Test.YtmfacacpoajpgabSpc
import Derived.Test.YtmfacacpoajpgabBit2
namespace Go.Proofs.Ytmfacacpoajpgab
open Go.RowKit
attribute [local go_sem ↓] Go.wp_at_zero Go.wp_at_succ

set_option maxRecDepth 100000 in
set_option maxHeartbeats 3200000 in
/-- spec.BitsTake. -/
theorem sbitsTake_any (ao : Option Addr) (cap : Nat) (zs : List Int) (a u n : Int) (w : World) (hr : Row w ao zs) (hz : Octets zs) (hfit : zs.length ≤ cap) (hnil : ao = none → zs.length = 0 ∧ cap = 0) :
    Calls Try.prog 19 #[.agg #[.slice ao zs.length cap, .int .i64 a, .int .i64 u], .int .i64 n] w fun e w' =>
      ResT w.heap.size w' e (tkB zs a u n) (tkV zs a u n) (tkZ zs a u n) (tkA zs a u n) (tkU zs a u n) ∧ Below w.heap.size w w' := by
  have HN : Hid (ao = none → zs.length = 0 ∧ cap = 0) := hnil
  clear hnil
  by_cases hv : vld zs.length a u = true
  · have HV : Hid (vld zs.length a u = true) := hv
    obtain ⟨a0, a7, al, hl, u0, u1, um⟩ := vld_out hv
    clear al um
    cases hok : tkOk zs a u n
    · have H1 : Hid (tkB zs a u n = false) := by show tkB zs a u n = false; simp [tkB, hv, hok]
      have H2 : Hid (tkV zs a u n = 0) := by show tkV zs a u n = 0; simp [tkV, hv, hok]
      have H3 : Hid (tkZ zs a u n = zs) := by show tkZ zs a u n = zs; simp [tkZ, hv, hok]
      have H4 : Hid (tkA zs a u n = a) := by show tkA zs a u n = a; simp [tkA, hv, hok]
      have H5 : Hid (tkU zs a u n = u) := by show tkU zs a u n = u; simp [tkU, hv, hok]
      have hno := tkOk_no hok
      clear hv hok
      rcases hno with h | h | ⟨h0, h1, h2⟩
      all_goals
        first
          | (have h' : ¬ n < 0 := by omega)
          | skip
        go_enter Try.func19, Try.ntmps19
        go_wp2_with fail
        refine (svalid_any ao zs.length cap a u _).mono ?_
        rintro e w1 ⟨rfl, hb1⟩
        have hres1 := (five_new (w.alloc (.cells #[.slice ao zs.length cap, .int .i64 a, .int .i64 u] 26)) (.bool false) (.int .u64 0) (.slice none 0 0) (.int .i64 0) (.int .i64 0) 37).grown (grownBy_of_below hb1 none) (by simp)
        have harg1 := ((src_new w (.slice ao zs.length cap) a u 26).grown (World.grownBy_alloc _ (.cells #[.bool false, .int .u64 0, .slice none 0 0, .int .i64 0, .int .i64 0] 37) none) (by simp)).grown (grownBy_of_below hb1 none) (by simp)
        simp only [World.size_alloc] at hres1
        have harg1' := harg1
        obtain ⟨g0, g1, g2, _, _, _⟩ := harg1'
        have hz1 : w.heap.size + 1 < w1.heap.size := by have := hb1.size; simp at this; omega
        have hbl1 : Below w.heap.size w w1 := (((Below.refl w.heap.size w).alloc (Nat.le_refl _) _).alloc (by simp) _).trans (hb1.mono (by simp; omega))
        rw [HV.out]
        clear hb1
      · go_wp2_with fail
        refine (l2Copy_any ao cap zs a u w1 (hr.below hbl1) HN.out (by omega)).mono ?_
        rintro e w2 ⟨⟨ao2, cap2, rfl, hm2⟩, hb2⟩
        have hres2 := hres1.grown (grownBy_of_below hb2 none) (by simp)
        have hbl2 := hbl1.trans (hb2.mono (by omega))
        obtain ⟨k1, k2, k3⟩ := five_set hres2 (.bool false) (.int .u64 0) (.slice ao2 zs.length cap2) (.int .i64 a) (.int .i64 u)
        have hm5 := hm2.grown k2 (by intro k e; simp at e; subst e; exact hm2.far (by omega))
        have hbl5 := hbl2.grown k2 (by have := hb2.size; omega) (by intro k e; simp at e; omega)
        obtain ⟨⟨r0, r1, r2, r3, r4⟩, q0, q1, q2, q3, q4⟩ := hres2
        obtain ⟨x0, x1, x2, x3, x4⟩ := k1.all
        clear g0 g1 g2 harg1 hr hres1 hbl1 hbl2 hb2 k1 k2 k3 hm2
        unfold five at *
        go_wp2_with fail
        exact bodyPost_ret (v := .agg #[.bool false, .int .u64 0, .slice ao2 zs.length cap2, .int .i64 a, .int .i64 u]) (by simp [results, Try.results19, go_sem, x0, x1, x2, x3, x4]) rfl ⟨by rw [H1.out, H2.out, H3.out, H4.out, H5.out]; exact ⟨ao2, cap2, rfl, hm5.mono (by omega)⟩, hbl5⟩
      · go_wp2_with fail
        refine (l2Copy_any ao cap zs a u w1 (hr.below hbl1) HN.out (by omega)).mono ?_
        rintro e w2 ⟨⟨ao2, cap2, rfl, hm2⟩, hb2⟩
        have hres2 := hres1.grown (grownBy_of_below hb2 none) (by simp)
        have hbl2 := hbl1.trans (hb2.mono (by omega))
        obtain ⟨k1, k2, k3⟩ := five_set hres2 (.bool false) (.int .u64 0) (.slice ao2 zs.length cap2) (.int .i64 a) (.int .i64 u)
        have hm5 := hm2.grown k2 (by intro k e; simp at e; subst e; exact hm2.far (by omega))
        have hbl5 := hbl2.grown k2 (by have := hb2.size; omega) (by intro k e; simp at e; omega)
        obtain ⟨⟨r0, r1, r2, r3, r4⟩, q0, q1, q2, q3, q4⟩ := hres2
        obtain ⟨x0, x1, x2, x3, x4⟩ := k1.all
        clear g0 g1 g2 harg1 hr hres1 hbl1 hbl2 hb2 k1 k2 k3 hm2
        unfold five at *
        go_wp2_with fail
        exact bodyPost_ret (v := .agg #[.bool false, .int .u64 0, .slice ao2 zs.length cap2, .int .i64 a, .int .i64 u]) (by simp [results, Try.results19, go_sem, x0, x1, x2, x3, x4]) rfl ⟨by rw [H1.out, H2.out, H3.out, H4.out, H5.out]; exact ⟨ao2, cap2, rfl, hm5.mono (by omega)⟩, hbl5⟩
      · have HB : Hid (hasB zs.length a u n = false) := h2
        clear h2
        go_wp2_with fail
        refine (l2Has_any ao zs.length cap a u n w1 hl a0 a7 u0 u1 h0 (by omega)).mono ?_
        rintro e w1' ⟨rfl, hb1'⟩
        have hres1' := hres1.grown (grownBy_of_below hb1' none) (by simp)
        have harg2 := harg1.grown (grownBy_of_below hb1' none) (by simp)
        have hbl1' := hbl1.trans (hb1'.mono (by omega))
        have hz1' := hb1'.size
        clear g0 g1 g2 harg1 hres1 hbl1 hb1'
        obtain ⟨g0, g1, g2, _, _, _⟩ := harg2
        rw [HB.out]
        go_wp2_with fail
        refine (l2Copy_any ao cap zs a u w1' (hr.below hbl1') HN.out (by omega)).mono ?_
        rintro e w2 ⟨⟨ao2, cap2, rfl, hm2⟩, hb2⟩
        have hres2 := hres1'.grown (grownBy_of_below hb2 none) (by simp)
        have hbl2 := hbl1'.trans (hb2.mono (by omega))
        obtain ⟨k1, k2, k3⟩ := five_set hres2 (.bool false) (.int .u64 0) (.slice ao2 zs.length cap2) (.int .i64 a) (.int .i64 u)
        have hm5 := hm2.grown k2 (by intro k e; simp at e; subst e; exact hm2.far (by omega))
        have hbl5 := hbl2.grown k2 (by have := hb2.size; omega) (by intro k e; simp at e; omega)
        obtain ⟨⟨r0, r1, r2, r3, r4⟩, q0, q1, q2, q3, q4⟩ := hres2
        obtain ⟨x0, x1, x2, x3, x4⟩ := k1.all
        clear g0 g1 g2 hr hres1' hbl1' hbl2 hb2 k1 k2 k3 hm2
        unfold five at *
        go_wp2_with fail
        exact bodyPost_ret (v := .agg #[.bool false, .int .u64 0, .slice ao2 zs.length cap2, .int .i64 a, .int .i64 u]) (by simp [results, Try.results19, go_sem, x0, x1, x2, x3, x4]) rfl ⟨by rw [H1.out, H2.out, H3.out, H4.out, H5.out]; exact ⟨ao2, cap2, rfl, hm5.mono (by omega)⟩, hbl5⟩
    · obtain ⟨n0, n1, hh⟩ := of_decide_eq_true hok
      obtain ⟨N, rfl⟩ := Int.eq_ofNat_of_zero_le n0
      have H1 : Hid (tkB zs a u N = true) := by show tkB zs a u N = true; simp [tkB, hv, hok]
      have H2 : Hid (tkV zs a u N = field (bnum zs) a.toNat N) := by show tkV zs a u N = field (bnum zs) a.toNat N; simp [tkV, hv, hok]
      have H3 : Hid (tkZ zs a u N = zs.drop ((a + N) / 8).toNat) := by show tkZ zs a u N = zs.drop ((a + N) / 8).toNat; simp [tkZ, hv, hok]
      have H4 : Hid (tkA zs a u N = (a + N) % 8) := by show tkA zs a u N = (a + N) % 8; simp [tkA, hv, hok]
      have H5 : Hid (tkU zs a u N = u + N) := by show tkU zs a u N = u + N; simp [tkU, hv, hok]
      have HH : Hid (hasB zs.length a u N = true) := hh
      have hbits := of_decide_eq_true hh
      obtain ⟨A, rfl⟩ := Int.eq_ofNat_of_zero_le a0
      rw [Int.toNat_natCast] at H2
      clear hv hok hh
      go_enter Try.func19, Try.ntmps19
      go_wp2_with fail
      refine (svalid_any ao zs.length cap A u _).mono ?_
      rintro e w1 ⟨rfl, hb1⟩
      have hres1 := (five_new (w.alloc (.cells #[.slice ao zs.length cap, .int .i64 A, .int .i64 u] 26)) (.bool false) (.int .u64 0) (.slice none 0 0) (.int .i64 0) (.int .i64 0) 37).grown (grownBy_of_below hb1 none) (by simp)
      have harg1 := ((src_new w (.slice ao zs.length cap) A u 26).grown (World.grownBy_alloc _ (.cells #[.bool false, .int .u64 0, .slice none 0 0, .int .i64 0, .int .i64 0] 37) none) (by simp)).grown (grownBy_of_below hb1 none) (by simp)
      simp only [World.size_alloc] at hres1
      have harg1' := harg1
      obtain ⟨g0, g1, g2, _, _, _⟩ := harg1'
      have hz1 : w.heap.size + 1 < w1.heap.size := by have := hb1.size; simp at this; omega
      have hbl1 : Below w.heap.size w w1 := (((Below.refl w.heap.size w).alloc (Nat.le_refl _) _).alloc (by simp) _).trans (hb1.mono (by simp; omega))
      rw [HV.out]
      clear hb1
      go_wp2_with fail
      refine (l2Has_any ao zs.length cap A u N w1 hl (by omega) a7 u0 u1 (by omega) (by omega)).mono ?_
      rintro e w2 ⟨rfl, hb2⟩
      have hres2 := hres1.grown (grownBy_of_below hb2 none) (by simp)
      have harg2 := harg1.grown (grownBy_of_below hb2 none) (by simp)
      have hbl2 := hbl1.trans (hb2.mono (by omega))
      have hz2 := hb2.size
      have hr2 := hr.below hbl2
      clear g0 g1 g2 harg1 hres1 hbl1 hb2 hr
      obtain ⟨g0, g1, g2, _, _, _⟩ := harg2
      rw [HH.out]
      go_wp2_with fail
      go_loop [5, 6] (fun x i => ∃ k : Nat, k ≤ N ∧ i = .int .i64 ((k : Int) - 1) ∧ x = .int .u64 (field (bnum zs) (A + k) (N - k) : Nat)) (fun _ i => (intOf i + 1).toNat)
      case atStart => exact ⟨N, Nat.le_refl _, by go_num, by rw [Nat.sub_self, field_zero]; rfl⟩
      case round =>
        obtain ⟨k, hk, rfl, rfl⟩ := hrel
        by_cases hlt : 0 < k
        · obtain ⟨j, rfl⟩ : ∃ j, k = j + 1 := ⟨k - 1, by omega⟩
          have hf := field_succ (bnum zs) (A + j) (N - (j + 1))
          rw [show N - (j + 1) + 1 = N - j by omega, show A + j + 1 = A + (j + 1) by omega] at hf
          have HF : Hid (field (bnum zs) (A + j) (N - j) = 2 * field (bnum zs) (A + (j + 1)) (N - (j + 1)) + bnum zs / 2 ^ (A + j) % 2) := hf
          have hfl := field_lt (bnum zs) (A + (j + 1)) (N - (j + 1))
          have hfl2 : (2 : Nat) ^ (N - (j + 1)) ≤ 2 ^ 31 := Nat.pow_le_pow_right (by decide) (by omega)
          have hfb : field (bnum zs) (A + (j + 1)) (N - (j + 1)) ≤ 2147483648 := by omega
          have hbb : bnum zs / 2 ^ (A + j) % 2 ≤ 1 := by omega
          have hL := l2Bit_any ao cap zs (A + j) w2 hr2 hz hl (by omega)
          rw [Int.natCast_add] at hL
          have HL := (show Hid (Calls Try.prog 48 #[.slice ao zs.length cap, .int .i64 ((A : Int) + (j : Int))] w2 fun e w' => e = .returned (.int .u64 (bnum zs / 2 ^ (A + j) % 2 : Nat)) ∧ w' = w2) from hL)
          clear hf hfl hfl2 hL hr2 hres2
          generalize field (bnum zs) (A + (j + 1)) (N - (j + 1)) = y at *
          generalize bnum zs / 2 ^ (A + j) % 2 = bt at *
          have hj1 : (((j + 1 : Nat) : Int) - 1) = (j : Int) := by omega
          go_wp2_with fail
          refine HL.out.mono ?_
          rintro e w' ⟨rfl, rfl⟩
          clear HL
          go_wp2_with fail
          go_round
          case rel => exact ⟨j, by omega, by go_num, by rw [HF.out]; go_num⟩
          case measure => simp [intOf]
        · have e : k = 0 := by omega
          subst e
          simp only [Nat.add_zero, Nat.sub_zero]
          have hk1 : (((0 : Nat) : Int) - 1) = -1 := by omega
          go_wp2_with fail
          refine (l2Skip_any ao cap zs A u N w2 hr2 hfit HN.out hl (by omega) a7 u0 u1 (by omega) (by omega)).mono ?_
          rintro e w3 ⟨⟨ao3, cap3, rfl, hm3⟩, hb3⟩
          have hres3 := hres2.grown (grownBy_of_below hb3 none) (by simp)
          have hbl3 := hbl2.trans (hb3.mono (by omega))
          generalize zs.drop (((A : Int) + (N : Int)) / 8).toNat = zd at *
          obtain ⟨k1, k2, k3⟩ := five_set hres3 (.bool true) (.int .u64 (field (bnum zs) A N : Nat)) (.slice ao3 zd.length cap3) (.int .i64 (((A : Int) + (N : Int)) % 8)) (.int .i64 (u + N))
          have hm5 := hm3.grown k2 (by intro k e; simp at e; subst e; exact hm3.far (by omega))
          have hbl5 := hbl3.grown k2 (by have := hb3.size; omega) (by intro k e; simp at e; omega)
          obtain ⟨⟨r0, r1, r2, r3, r4⟩, q0, q1, q2, q3, q4⟩ := hres3
          obtain ⟨x0, x1, x2, x3, x4⟩ := k1.all
          clear g0 g1 g2 hr2 hres2 hbl2 hbl3 hb3 k1 k2 k3 hm3
          unfold five at *
          go_wp2_with fail
          exact bodyPost_ret (v := .agg #[.bool true, .int .u64 (field (bnum zs) A N : Nat), .slice ao3 zd.length cap3, .int .i64 (((A : Int) + (N : Int)) % 8), .int .i64 (u + N)]) (by simp [results, Try.results19, go_sem, x0, x1, x2, x3, x4]) rfl ⟨by rw [H1.out, H2.out, H3.out, H4.out, H5.out]; exact ⟨ao3, cap3, rfl, hm5.mono (by omega)⟩, hbl5⟩
  · have HV : Hid (vld zs.length a u = false) := Bool.eq_false_iff.2 hv
    have H1 : Hid (tkB zs a u n = false) := if_neg hv
    have H2 : Hid (tkV zs a u n = 0) := if_neg hv
    have H3 : Hid (tkZ zs a u n = []) := if_neg hv
    have H4 : Hid (tkA zs a u n = 0) := if_neg hv
    have H5 : Hid (tkU zs a u n = 0) := if_neg hv
    clear hv
    go_enter Try.func19, Try.ntmps19
    go_wp2_with fail
    refine (svalid_any ao zs.length cap a u _).mono ?_
    rintro e w1 ⟨rfl, hb1⟩
    have hres1 := (five_new (w.alloc (.cells #[.slice ao zs.length cap, .int .i64 a, .int .i64 u] 26)) (.bool false) (.int .u64 0) (.slice none 0 0) (.int .i64 0) (.int .i64 0) 37).grown (grownBy_of_below hb1 none) (by simp)
    simp only [World.size_alloc] at hres1
    have hz1 : w.heap.size + 1 < w1.heap.size := by have := hb1.size; simp at this; omega
    have hbl1 : Below w.heap.size w w1 := (((Below.refl w.heap.size w).alloc (Nat.le_refl _) _).alloc (by simp) _).trans (hb1.mono (by simp; omega))
    obtain ⟨k1, k2, k3⟩ := five_set hres1 (.bool false) (.int .u64 0) (.slice none 0 0) (.int .i64 0) (.int .i64 0)
    have hbl5 := hbl1.grown k2 (by omega) (by intro k e; simp at e; omega)
    obtain ⟨⟨r0, r1, r2, r3, r4⟩, q0, q1, q2, q3, q4⟩ := hres1
    obtain ⟨x0, x1, x2, x3, x4⟩ := k1.all
    rw [HV.out]
    clear hb1 hr k1 k2 k3
    unfold five at *
    go_wp2_with fail
    exact bodyPost_ret (v := .agg #[.bool false, .int .u64 0, .slice none 0 0, .int .i64 0, .int .i64 0]) (by simp [results, Try.results19, go_sem, x0, x1, x2, x3, x4]) rfl ⟨by rw [H1.out, H2.out, H3.out, H4.out, H5.out]; exact ⟨none, 0, rfl, Mine.nothing _ _⟩, hbl5⟩
end Go.Proofs.Ytmfacacpoajpgab
