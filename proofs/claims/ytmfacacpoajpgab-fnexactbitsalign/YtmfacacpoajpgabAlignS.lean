import Derived.Test.YtmfacacpoajpgabAlignI
import Derived.Test.YtmfacacpoajpgabSpc
namespace Go.Proofs.Ytmfacacpoajpgab
open Go.RowKit
attribute [local go_sem ↓] Go.wp_at_zero Go.wp_at_succ

set_option maxRecDepth 100000 in
set_option maxHeartbeats 3200000 in
/-- spec.BitsAlign. -/
theorem sbitsAlign_any (ao : Option Addr) (cap : Nat) (zs : List Int) (a u : Int) (w : World) (hr : Row w ao zs) (hfit : zs.length ≤ cap) (hnil : ao = none → zs.length = 0 ∧ cap = 0) :
    Calls Try.prog 24 #[.agg #[.slice ao zs.length cap, .int .i64 a, .int .i64 u]] w fun e w' => ResB w.heap.size w' e (alZ zs a u) 0 (alU zs a u) ∧ Below w.heap.size w w' := by
  have HN : Hid (ao = none → zs.length = 0 ∧ cap = 0) := hnil
  clear hnil
  by_cases hv : vld zs.length a u = true
  · have HV : Hid (vld zs.length a u = true) := hv
    have HZ : Hid (alZ zs a u = zs.drop (cutA a)) := if_pos hv
    have HU : Hid (alU zs a u = u + restA a) := if_pos hv
    obtain ⟨a0, a7, al, hl, u0, u1, um⟩ := vld_out hv
    clear hv
    by_cases hz : a = 0
    · subst hz
      have HZ2 : Hid (alZ zs 0 u = zs) := HZ.out.trans (by simp [cutA])
      have HU2 : Hid (alU zs 0 u = u) := HU.out.trans (by simp [restA])
      clear HZ HU al um a0 a7
      go_enter Try.func24, Try.ntmps24
      go_wp2_with fail
      refine (svalid_any ao zs.length cap 0 u _).mono ?_
      rintro e w1 ⟨rfl, hb1⟩
      have hres1 := (src_new (w.alloc (.cells #[.slice ao zs.length cap, .int .i64 0, .int .i64 u] 26)) (.slice none 0 0) 0 0 26).grown (grownBy_of_below hb1 none) (by simp)
      have harg1 := (src_alloc (src_new w (.slice ao zs.length cap) 0 u 26) (.cells #[.slice none 0 0, .int .i64 0, .int .i64 0] 26)).grown (grownBy_of_below hb1 none) (by simp)
      simp only [World.size_alloc] at hres1
      obtain ⟨g0, g1, g2, _, _, _⟩ := harg1
      have hz1 : w.heap.size + 1 < w1.heap.size := by have := hb1.size; simp at this; omega
      have hbl1 : Below w.heap.size w w1 := (((Below.refl w.heap.size w).alloc (Nat.le_refl _) _).alloc (by simp) _).trans (hb1.mono (by simp; omega))
      have hr1 := hr.below hbl1
      rw [HV.out]
      clear hb1 hr
      go_wp2_with fail
      refine (l2Copy_any ao cap zs 0 u w1 hr1 HN.out (by omega)).mono ?_
      rintro e w2 ⟨⟨ao2, cap2, rfl, hm2⟩, hb2⟩
      have hres2 := hres1.grown (grownBy_of_below hb2 none) (by simp)
      have hbl2 := hbl1.trans (hb2.mono (by omega))
      obtain ⟨k1, k2, k3⟩ := src_set hres2 (.slice ao2 zs.length cap2) 0 u
      have hm5 := hm2.grown k2 (by intro k e; simp at e; subst e; exact hm2.far (by omega))
      have hbl5 := hbl2.grown k2 (by have := hb2.size; omega) (by intro k e; simp at e; omega)
      obtain ⟨r0, r1, r2, q0, q1, q2⟩ := hres2
      obtain ⟨x0, x1, x2, _, _, _⟩ := k1
      clear g0 g1 g2 hr1 hres1 hbl1 hbl2 hb2 k2 k3 hm2
      go_wp2_with fail
      exact bodyPost_ret (v := .agg #[.slice ao2 zs.length cap2, .int .i64 0, .int .i64 u]) (by simp [results, Try.results24, go_sem, x0, x1, x2]) rfl ⟨by rw [HZ2.out, HU2.out]; exact ⟨ao2, cap2, rfl, hm5.mono (by omega)⟩, hbl5⟩
    · have hz' : (a == 0) = false := by simpa using hz
      have hln : 0 < zs.length := by omega
      have HB : Hid (hasB zs.length a u (8 - a) = true) := decide_eq_true (by omega)
      have hq : (a + (8 - a)) / 8 = 1 := by omega
      have HZ2 : Hid (alZ zs a u = zs.drop ((a + (8 - a)) / 8).toNat) := HZ.out.trans (by rw [hq]; simp [cutA, hz])
      have HU2 : Hid (alU zs a u = u + (8 - a)) := HU.out.trans (by unfold restA; omega)
      have HA2 : Hid ((a + (8 - a)) % 8 = 0) := by show (a + (8 - a)) % 8 = 0; omega
      clear HZ HU al um hq
      go_enter Try.func24, Try.ntmps24
      go_wp2_with fail
      refine (svalid_any ao zs.length cap a u _).mono ?_
      rintro e w1 ⟨rfl, hb1⟩
      have hres1 := (src_new (w.alloc (.cells #[.slice ao zs.length cap, .int .i64 a, .int .i64 u] 26)) (.slice none 0 0) 0 0 26).grown (grownBy_of_below hb1 none) (by simp)
      have harg1 := (src_alloc (src_new w (.slice ao zs.length cap) a u 26) (.cells #[.slice none 0 0, .int .i64 0, .int .i64 0] 26)).grown (grownBy_of_below hb1 none) (by simp)
      simp only [World.size_alloc] at hres1
      have hz1 : w.heap.size + 1 < w1.heap.size := by have := hb1.size; simp at this; omega
      have hbl1 : Below w.heap.size w w1 := (((Below.refl w.heap.size w).alloc (Nat.le_refl _) _).alloc (by simp) _).trans (hb1.mono (by simp; omega))
      have harg1' := harg1
      obtain ⟨g0, g1, g2, _, _, _⟩ := harg1'
      rw [HV.out]
      clear hb1
      go_wp2_with fail
      refine (l2Has_any ao zs.length cap a u (8 - a) w1 hl a0 a7 u0 u1 (by omega) (by omega)).mono ?_
      rintro e w2 ⟨rfl, hb2⟩
      have hres2 := hres1.grown (grownBy_of_below hb2 none) (by simp)
      have harg2 := harg1.grown (grownBy_of_below hb2 none) (by simp)
      have hbl2 := hbl1.trans (hb2.mono (by omega))
      have hz2 := hb2.size
      have hr2 := hr.below hbl2
      clear g0 g1 g2 hres1 harg1 hbl1 hb2 hr
      obtain ⟨g0, g1, g2, _, _, _⟩ := harg2
      rw [HB.out]
      go_wp2_with fail
      refine (l2Skip_any ao cap zs a u (8 - a) w2 hr2 hfit HN.out hl a0 a7 u0 u1 (by omega) (by omega)).mono ?_
      rintro e w3 ⟨⟨ao2, cap2, rfl, hm2⟩, hb3⟩
      rw [HA2.out]
      have hres3 := hres2.grown (grownBy_of_below hb3 none) (by simp)
      have hbl3 := hbl2.trans (hb3.mono (by omega))
      generalize zs.drop ((a + (8 - a)) / 8).toNat = zd at *
      obtain ⟨k1, k2, k3⟩ := src_set hres3 (.slice ao2 zd.length cap2) 0 (u + (8 - a))
      have hm5 := hm2.grown k2 (by intro k e; simp at e; subst e; exact hm2.far (by omega))
      have hbl5 := hbl3.grown k2 (by have := hb3.size; omega) (by intro k e; simp at e; omega)
      obtain ⟨r0, r1, r2, q0, q1, q2⟩ := hres3
      obtain ⟨x0, x1, x2, _, _, _⟩ := k1
      clear g0 g1 g2 hr2 hres2 hbl2 hb3 hbl3 k2 k3 hm2
      go_wp2_with fail
      exact bodyPost_ret (v := .agg #[.slice ao2 zd.length cap2, .int .i64 0, .int .i64 (u + (8 - a))]) (by simp [results, Try.results24, go_sem, x0, x1, x2]) rfl ⟨by rw [HZ2.out, HU2.out]; exact ⟨ao2, cap2, rfl, hm5.mono (by omega)⟩, hbl5⟩
  · have HV : Hid (vld zs.length a u = false) := Bool.eq_false_iff.2 hv
    have HZ : Hid (alZ zs a u = []) := if_neg hv
    have HU : Hid (alU zs a u = 0) := if_neg hv
    clear hv
    go_enter Try.func24, Try.ntmps24
    go_wp2_with fail
    refine (svalid_any ao zs.length cap a u _).mono ?_
    rintro e w1 ⟨rfl, hb1⟩
    have hres1 := (src_new (w.alloc (.cells #[.slice ao zs.length cap, .int .i64 a, .int .i64 u] 26)) (.slice none 0 0) 0 0 26).grown (grownBy_of_below hb1 none) (by simp)
    simp only [World.size_alloc] at hres1
    have hz1 : w.heap.size + 1 < w1.heap.size := by have := hb1.size; simp at this; omega
    have hbl1 : Below w.heap.size w w1 := (((Below.refl w.heap.size w).alloc (Nat.le_refl _) _).alloc (by simp) _).trans (hb1.mono (by simp; omega))
    obtain ⟨k1, k2, k3⟩ := src_set hres1 (.slice none 0 0) 0 0
    have hbl5 := hbl1.grown k2 (by omega) (by intro k e; simp at e; omega)
    obtain ⟨r0, r1, r2, q0, q1, q2⟩ := hres1
    obtain ⟨x0, x1, x2, _, _, _⟩ := k1
    rw [HV.out]
    clear hb1 hr k2 k3
    go_wp2_with fail
    exact bodyPost_ret (v := .agg #[.slice none 0 0, .int .i64 0, .int .i64 0]) (by simp [results, Try.results24, go_sem, x0, x1, x2]) rfl ⟨by rw [HZ.out, HU.out]; exact resB_nothing _ _, hbl5⟩
end Go.Proofs.Ytmfacacpoajpgab
