import Derived.Test.YtmfacacpoajpgabFeed
import Derived.Test.YtmfacacpoajpgabSpc
namespace Go.Proofs.Ytmfacacpoajpgab
open Go.RowKit
attribute [local go_sem ↓] Go.wp_at_zero Go.wp_at_succ

set_option maxRecDepth 100000 in
set_option maxHeartbeats 3200000 in
/-- spec.BitsFeed. -/
theorem sbitsFeed_any (ao co : Option Addr) (cap cc : Nat) (zs cs : List Int) (a u : Int) (w : World) (hr : Row w ao zs) (hnil : ao = none → zs.length = 0 ∧ cap = 0) (hrc : Row w co cs) (hnc : co = none → cs.length = 0 ∧ cc = 0) (hc : cs.length ≤ 140737488355328) :
    Calls Try.prog 10 #[.agg #[.slice ao zs.length cap, .int .i64 a, .int .i64 u], .slice co cs.length cc] w fun e w' => ResB w.heap.size w' e (fdZ zs cs a u) (fdA zs a u) (fdU zs a u) ∧ Below w.heap.size w w' := by
  obtain ⟨i0, hi, hz0, hz1i, hz2i⟩ := info_parts Try.info_u8s
  have HNC : Hid (co = none → cs.length = 0 ∧ cc = 0) := hnc
  have HN : Hid (ao = none → zs.length = 0 ∧ cap = 0) := hnil
  clear hnc hnil
  by_cases hv : vld zs.length a u = true
  · have HV : Hid (vld zs.length a u = true) := hv
    have HZ : Hid (fdZ zs cs a u = if zs.length + cs.length ≤ 1000000 then zs ++ cs else zs) := if_pos hv
    have HA : Hid (fdA zs a u = a) := if_pos hv
    have HU : Hid (fdU zs a u = u) := if_pos hv
    have hl : zs.length ≤ 1000000 := (vld_out hv).2.2.2.1
    clear hv
    by_cases hfit : zs.length + cs.length ≤ 1000000
    · have hd : decide ((zs.length : Int) + (cs.length : Int) ≤ 1000000) = true := decide_eq_true (by omega)
      have HZ2 : Hid (fdZ zs cs a u = zs ++ cs) := HZ.out.trans (if_pos hfit)
      clear HZ
      go_enter Try.func10, Try.ntmps10
      go_wp2_with fail
      refine (svalid_any ao zs.length cap a u _).mono ?_
      rintro e w1 ⟨rfl, hb1⟩
      have hres1 := (src_new (w.alloc (.cells #[.slice ao zs.length cap, .int .i64 a, .int .i64 u] 26)) (.slice none 0 0) 0 0 26).grown (grownBy_of_below hb1 none) (by simp)
      have harg1 := ((src_new w (.slice ao zs.length cap) a u 26).grown (World.grownBy_alloc _ (.cells #[.slice none 0 0, .int .i64 0, .int .i64 0] 26) none) (by simp)).grown (grownBy_of_below hb1 none) (by simp)
      simp only [World.size_alloc] at hres1
      have hz1 : w.heap.size + 1 < w1.heap.size := by have := hb1.size; simp at this; omega
      have hbl1 : Below w.heap.size w w1 := (((Below.refl w.heap.size w).alloc (Nat.le_refl _) _).alloc (by simp) _).trans (hb1.mono (by simp; omega))
      have hr1 := hr.below hbl1
      have harg1' := harg1
      obtain ⟨g0, g1, g2, _, _, _⟩ := harg1'
      rw [HV.out]
      clear hb1 hr
      go_wp2_with fail
      refine (l2Copy_owns ao cap zs a u w1 hr1 HN.out (by omega)).mono ?_
      rintro e w2 ⟨⟨ao2, cap2, rfl, ho2⟩, hb2⟩
      have hz2 : w1.heap.size ≤ w2.heap.size := hb2.size
      have hal : Below w2.heap.size w2 (w2.alloc (.cells #[.slice ao2 zs.length cap2, .int .i64 a, .int .i64 u] 26)) := (Below.refl _ _).alloc (Nat.le_refl _) _
      have hres2 := (hres1.grown (grownBy_of_below hb2 none) (by simp)).grown (grownBy_of_below hal none) (by simp)
      have harg2 := (harg1.grown (grownBy_of_below hb2 none) (by simp)).grown (grownBy_of_below hal none) (by simp)
      have hbl2 := (hbl1.trans (hb2.mono (by omega))).trans (hal.mono (by omega))
      have hout2 := src_new w2 (.slice ao2 zs.length cap2) a u 26
      have hrc2 := hrc.below hbl2
      have ho3 := ho2.below hal
      have hlt := ho2.mine.lies
      clear g0 g1 g2 hr1 hb2 hres1 hbl1 hrc harg1 ho2 hal
      obtain ⟨g0, g1, g2, _, _, _⟩ := harg2
      have hout2' := hout2
      obtain ⟨t0, t1, t2, tf0, tf1, tf2⟩ := hout2'
      go_wp2_with (at_builtin; refine wpList_append_row _ rfl _ _ 22 rfl w1.heap.size 5 i0 (.int .u8 0) 1 Try.underlying22 hi hz0 hz1i hz2i rfl (.slice ao2 zs.length cap2) zs.length (zs.map (Value.int .u8)) rfl ho3 co cc cs rfl hrc2 HNC.out (by unfold maxLen; omega) (by omega) (by simp; omega) ?_)
      intro v' w3 hown hgrow hat
      rw [← List.map_append] at hown
      obtain ⟨ao3, cap3, e', ho4⟩ := OwnsB.of hown
      subst e'
      have hob : (Value.slice ao2 zs.length cap2).ownBlock = blk ao2 := by cases ao2 <;> rfl
      have hob3 : (Value.slice ao3 (zs ++ cs).length cap3).ownBlock = blk ao3 := by cases ao3 <;> rfl
      rw [hob] at hgrow hat
      rw [hob3] at hat
      have hout3 := hout2.grown hgrow (by
        intro e
        cases ao2 with
        | none => cases e
        | some ad => have := (hlt ad rfl).2.1; simp [blk] at e; omega)
      have hres3 := hres2.grown hgrow (fun e => ho3.mine.far (k := w.heap.size + 1) (by omega) e.symm)
      have hbl3 := hbl2.grown hgrow (by simp; omega) (fun k e => by
        rcases Nat.lt_or_ge k w1.heap.size with h | h
        · exact absurd e (ho3.mine.far h)
        · omega)
      have hm3 := ho4.mine
      have hz3 : w2.heap.size < w3.heap.size := by have := hgrow.size; simp at this; omega
      obtain ⟨k1, k2, k3⟩ := src_set0 hout3 (.slice ao3 (zs ++ cs).length cap3)
      have hm4 := hm3.grown k2 (by
        intro k e; simp at e; subst e
        intro hb
        rcases hat with h1 | h1
        · rw [h1] at hb
          cases ao2 with
          | none => cases hb
          | some ad => have := (hlt ad rfl).2.1; simp [blk] at hb; omega
        · rw [h1] at hb; simp at hb)
      have hres4 := hres3.grown k2 (by simp; omega)
      have hbl4 := hbl3.grown k2 (by omega) (by intro k e; simp at e; omega)
      obtain ⟨l1, l2, l3⟩ := src_set hres4 (.slice ao3 (zs ++ cs).length cap3) a u
      have hm5 := hm4.grown l2 (by intro k e; simp at e; subst e; exact hm4.far (by omega))
      have hbl5 := hbl4.grown l2 (by rw [k3]; omega) (by intro k e; simp at e; omega)
      have hne5 : w2.heap.size ≠ w.heap.size + 1 := by omega
      obtain ⟨y0, y1, y2, yf0, yf1, yf2⟩ := hout3
      obtain ⟨n0, n1, n2, _, _, _⟩ := k1
      obtain ⟨r0, r1, r2, rf0, rf1, rf2⟩ := hres4
      obtain ⟨x0, x1, x2, _, _, _⟩ := l1
      clear hown hgrow hat ho3 ho4 hob hob3 hres3 hres2 hbl3 hbl2 hbl4 hm3 hm4 k2 k3 l2 l3 hrc2 hlt g0 g1 g2 hout2 t0 t1 t2 tf0 tf1 tf2
      generalize hzc : zs ++ cs = zc at *
      clear hzc
      go_wp2_with fail
      exact bodyPost_ret (v := .agg #[.slice ao3 zc.length cap3, .int .i64 a, .int .i64 u]) (by simp [results, Try.results10, go_sem, x0, x1, x2]) rfl ⟨by rw [HZ2.out, HA.out, HU.out]; exact ⟨ao3, cap3, rfl, hm5.mono (by omega)⟩, hbl5⟩
    · have hd : decide ((zs.length : Int) + (cs.length : Int) ≤ 1000000) = false := decide_eq_false (by omega)
      have HZ2 : Hid (fdZ zs cs a u = zs) := HZ.out.trans (if_neg hfit)
      clear HZ
      go_enter Try.func10, Try.ntmps10
      go_wp2_with fail
      refine (svalid_any ao zs.length cap a u _).mono ?_
      rintro e w1 ⟨rfl, hb1⟩
      have hres1 := (src_new (w.alloc (.cells #[.slice ao zs.length cap, .int .i64 a, .int .i64 u] 26)) (.slice none 0 0) 0 0 26).grown (grownBy_of_below hb1 none) (by simp)
      have harg1 := ((src_new w (.slice ao zs.length cap) a u 26).grown (World.grownBy_alloc _ (.cells #[.slice none 0 0, .int .i64 0, .int .i64 0] 26) none) (by simp)).grown (grownBy_of_below hb1 none) (by simp)
      simp only [World.size_alloc] at hres1
      have hz1 : w.heap.size + 1 < w1.heap.size := by have := hb1.size; simp at this; omega
      have hbl1 : Below w.heap.size w w1 := (((Below.refl w.heap.size w).alloc (Nat.le_refl _) _).alloc (by simp) _).trans (hb1.mono (by simp; omega))
      have hr1 := hr.below hbl1
      have harg1' := harg1
      obtain ⟨g0, g1, g2, _, _, _⟩ := harg1'
      rw [HV.out]
      clear hb1 hr
      go_wp2_with fail
      refine (l2Copy_any ao cap zs a u w1 hr1 HN.out (by omega)).mono ?_
      rintro e w2 ⟨⟨ao2, cap2, rfl, hm2⟩, hb2⟩
      have hz2 : w1.heap.size ≤ w2.heap.size := hb2.size
      have hal : Below w2.heap.size w2 (w2.alloc (.cells #[.slice ao2 zs.length cap2, .int .i64 a, .int .i64 u] 26)) := (Below.refl _ _).alloc (Nat.le_refl _) _
      have hres2 := (hres1.grown (grownBy_of_below hb2 none) (by simp)).grown (grownBy_of_below hal none) (by simp)
      have harg2 := (harg1.grown (grownBy_of_below hb2 none) (by simp)).grown (grownBy_of_below hal none) (by simp)
      have hbl2 := (hbl1.trans (hb2.mono (by omega))).trans (hal.mono (by omega))
      have hm3 := hm2.below hal
      have hne5 : w2.heap.size ≠ w.heap.size + 1 := by omega
      obtain ⟨l1, l2, l3⟩ := src_set hres2 (.slice ao2 zs.length cap2) a u
      have hm5 := hm3.grown l2 (by intro k e; simp at e; subst e; exact hm3.far (by omega))
      have hbl5 := hbl2.grown l2 (by simp; omega) (by intro k e; simp at e; omega)
      clear g0 g1 g2 hr1 hb2 hres1 hbl1 hrc harg1 hm2 hal hbl2 hm3 l2 l3
      obtain ⟨g0, g1, g2, _, _, _⟩ := harg2
      obtain ⟨r0, r1, r2, rf0, rf1, rf2⟩ := hres2
      obtain ⟨x0, x1, x2, _, _, _⟩ := l1
      go_wp2_with fail
      exact bodyPost_ret (v := .agg #[.slice ao2 zs.length cap2, .int .i64 a, .int .i64 u]) (by simp [results, Try.results10, go_sem, x0, x1, x2]) rfl ⟨by rw [HZ2.out, HA.out, HU.out]; exact ⟨ao2, cap2, rfl, hm5.mono (by omega)⟩, hbl5⟩
  · have HV : Hid (vld zs.length a u = false) := Bool.eq_false_iff.2 hv
    have HZ : Hid (fdZ zs cs a u = []) := if_neg hv
    have HA : Hid (fdA zs a u = 0) := if_neg hv
    have HU : Hid (fdU zs a u = 0) := if_neg hv
    clear hv
    go_enter Try.func10, Try.ntmps10
    go_wp2_with fail
    refine (svalid_any ao zs.length cap a u _).mono ?_
    rintro e w1 ⟨rfl, hb1⟩
    have hres1 := (src_new (w.alloc (.cells #[.slice ao zs.length cap, .int .i64 a, .int .i64 u] 26)) (.slice none 0 0) 0 0 26).grown (grownBy_of_below hb1 none) (by simp)
    simp only [World.size_alloc] at hres1
    have hz1 : w.heap.size + 1 < w1.heap.size := by have := hb1.size; simp at this; omega
    have hbl1 : Below w.heap.size w w1 := (((Below.refl w.heap.size w).alloc (Nat.le_refl _) _).alloc (by simp) _).trans (hb1.mono (by simp; omega))
    obtain ⟨k1, k2, k3⟩ := src_set hres1 (.slice none 0 0) 0 0
    have hbl5 := hbl1.grown k2 (by omega) (by intro k e; simp at e; omega)
    obtain ⟨r0, r1, r2, q0, q1, q2⟩ := hres1
    obtain ⟨x0, x1, x2, _, _, _⟩ := k1
    rw [HV.out]
    clear hb1 hr hrc k2 k3
    go_wp2_with fail
    exact bodyPost_ret (v := .agg #[.slice none 0 0, .int .i64 0, .int .i64 0]) (by simp [results, Try.results10, go_sem, x0, x1, x2]) rfl ⟨by rw [HZ.out, HA.out, HU.out]; exact resB_nil _ _, hbl5⟩
end Go.Proofs.Ytmfacacpoajpgab
