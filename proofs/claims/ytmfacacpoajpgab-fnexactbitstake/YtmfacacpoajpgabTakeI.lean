import Derived.Test.YtmfacacpoajpgabTake
import Derived.Test.YtmfacacpoajpgabFive
namespace Go.Proofs.Ytmfacacpoajpgab
open Go.RowKit
attribute [local go_sem ↓] Go.wp_at_zero Go.wp_at_succ

/-! What BitsTake makes of a reader. -/
def tkOk (zs : List Int) (a u n : Int) : Bool := decide (0 ≤ n ∧ n ≤ 32 ∧ hasB zs.length a u n = true)
def tkV (zs : List Int) (a u n : Int) : Nat := if vld zs.length a u then (if tkOk zs a u n then field (bnum zs) a.toNat n.toNat else 0) else 0
def tkB (zs : List Int) (a u n : Int) : Bool := if vld zs.length a u then tkOk zs a u n else false
def tkZ (zs : List Int) (a u n : Int) : List Int := if vld zs.length a u then (if tkOk zs a u n then zs.drop ((a + n) / 8).toNat else zs) else []
def tkA (zs : List Int) (a u n : Int) : Int := if vld zs.length a u then (if tkOk zs a u n then (a + n) % 8 else a) else 0
def tkU (zs : List Int) (a u n : Int) : Int := if vld zs.length a u then (if tkOk zs a u n then u + n else u) else 0
theorem tkZ_len (zs : List Int) (a u n : Int) : (tkZ zs a u n).length ≤ zs.length := by
  unfold tkZ
  split
  · split
    · rw [List.length_drop]; omega
    · omega
  · simp
theorem tkOk_no {zs : List Int} {a u n : Int} (h : tkOk zs a u n = false) : n < 0 ∨ 32 < n ∨ (0 ≤ n ∧ n ≤ 32 ∧ hasB zs.length a u n = false) := by
  have h' := of_decide_eq_false h
  by_cases h0 : n < 0
  · exact .inl h0
  by_cases h1 : 32 < n
  · exact .inr (.inl h1)
  refine .inr (.inr ⟨by omega, by omega, ?_⟩)
  cases hb : hasB zs.length a u n
  · rfl
  · exact absurd ⟨by omega, by omega, hb⟩ h'

def ResT (B : Nat) (w : World) (e : Ending) (ok : Bool) (val : Nat) (zs : List Int) (a u : Int) : Prop :=
  ∃ ao cap, e = .returned (.agg #[.bool ok, .int .u64 val, .slice ao zs.length cap, .int .i64 a, .int .i64 u]) ∧ Mine B w ao cap zs

set_option maxRecDepth 100000 in
set_option maxHeartbeats 3200000 in
/-- impl.BitsTake. -/
theorem bitsTake_any (ao : Option Addr) (cap : Nat) (zs : List Int) (a u n : Int) (w : World) (hr : Row w ao zs) (hz : Octets zs) (hnil : ao = none → cap = 0) (hn : zs.length ≤ 140737488355328) :
    Calls Try.prog 20 #[.agg #[.slice ao zs.length cap, .int .i64 a, .int .i64 u], .int .i64 n] w fun e w' =>
      ResT w.heap.size w' e (tkB zs a u n) (tkV zs a u n) (tkZ zs a u n) (tkA zs a u n) (tkU zs a u n) ∧ Below w.heap.size w w' := by
  by_cases hv : vld zs.length a u = true
  · have HV : Hid (vld zs.length a u = true) := hv
    cases hok : tkOk zs a u n
    · have H1 : Hid (tkB zs a u n = false) := by show tkB zs a u n = false; simp [tkB, hv, hok]
      have H2 : Hid (tkV zs a u n = 0) := by show tkV zs a u n = 0; simp [tkV, hv, hok]
      have H3 : Hid (tkZ zs a u n = zs) := by show tkZ zs a u n = zs; simp [tkZ, hv, hok]
      have H4 : Hid (tkA zs a u n = a) := by show tkA zs a u n = a; simp [tkA, hv, hok]
      have H5 : Hid (tkU zs a u n = u) := by show tkU zs a u n = u; simp [tkU, hv, hok]
      have HNO : Hid (n < 0 ∨ 32 < n ∨ (0 ≤ n ∧ n ≤ 32 ∧ hasB zs.length a u n = false)) := tkOk_no hok
      clear hv hok
      go_enter Try.func20, Try.ntmps20
      go_wp2_with fail
      refine (valid_any ao zs.length cap a u _).mono ?_
      rintro e w1 ⟨rfl, hb1⟩
      have hres1 := (five_new (w.alloc (.cells #[.slice ao zs.length cap, .int .i64 a, .int .i64 u] 26)) (.bool false) (.int .u64 0) (.slice none 0 0) (.int .i64 0) (.int .i64 0) 37).grown (grownBy_of_below hb1 none) (by simp)
      have harg1 := ((src_new w (.slice ao zs.length cap) a u 26).grown (World.grownBy_alloc _ (.cells #[.bool false, .int .u64 0, .slice none 0 0, .int .i64 0, .int .i64 0] 37) none) (by simp)).grown (grownBy_of_below hb1 none) (by simp)
      simp only [World.size_alloc] at hres1
      obtain ⟨g0, g1, g2, _, _, _⟩ := harg1
      have hz1 : w.heap.size + 1 < w1.heap.size := by have := hb1.size; simp at this; omega
      have hbl1 : Below w.heap.size w w1 := (((Below.refl w.heap.size w).alloc (Nat.le_refl _) _).alloc (by simp) _).trans (hb1.mono (by simp; omega))
      have hr1 := hr.below hbl1
      rw [HV.out]
      clear hb1 hr
      go_wp2_with fail
      refine (openSource_any ao cap zs a u w1 hr1 hnil hn).mono ?_
      rintro e w2 ⟨p, ao2, cap2, rfl, hs2, hm2, hp2, hpz2, hpb2, hb2⟩
      have hal : Below w2.heap.size w2 (w2.alloc (.cells #[.pointer (some ⟨p, 0, none⟩)] 68)) := (Below.refl _ _).alloc (Nat.le_refl _) _
      have hz2 := hb2.size
      have hres2 := (hres1.grown (grownBy_of_below hb2 none) (by simp)).grown (grownBy_of_below hal none) (by simp)
      have hbl2 := (hbl1.trans (hb2.mono (by omega))).trans (hal.mono (by omega))
      have hs2' := hs2.grown (grownBy_of_below hal none) (by simp)
      have hm2' := hm2.below hal
      have hrd : (w2.alloc (.cells #[.pointer (some ⟨p, 0, none⟩)] 68)).cell? ⟨w2.heap.size, 0, none⟩ = some (.pointer (some ⟨p, 0, none⟩)) := by simp [go_sem]
      clear g0 g1 g2 hr1 hb2 hres1 hbl1 hs2 hm2 hal
      go_wp2_with fail
      refine (take_no p ao2 zs.length cap2 a u n _ hs2' HV.out HNO.out).mono ?_
      rintro e w3 ⟨rfl, hb3⟩
      have hrd3 : w3.cell? ⟨w2.heap.size, 0, none⟩ = some (.pointer (some ⟨p, 0, none⟩)) := (grownBy_of_below hb3 none).cell hrd (by simp)
      have hres3 := hres2.grown (grownBy_of_below hb3 none) (by simp)
      have hs3 := hs2'.grown (grownBy_of_below hb3 none) (by simp)
      have hm3 := hm2'.below hb3
      have hbl3 := hbl2.trans (hb3.mono (by simp; omega))
      have hz3 : w2.heap.size < w3.heap.size := by have := hb3.size; simp at this; omega
      clear hrd hres2 hs2' hm2' hbl2 hb3
      go_wp2_with fail
      refine (state_any p _ _ _ _ _ _ hs3).mono ?_
      rintro e w4 ⟨rfl, hb4⟩
      have hres4 := hres3.grown (grownBy_of_below hb4 none) (by simp)
      have hm4 := hm3.below hb4
      have hbl4 := hbl3.trans (hb4.mono (by omega))
      obtain ⟨k1, k2, k3⟩ := five_set hres4 (.bool false) (.int .u64 0) (.slice ao2 zs.length cap2) (.int .i64 a) (.int .i64 u)
      have hm5 := hm4.grown k2 (by intro k e; simp at e; subst e; exact hm4.far (by omega))
      have hbl5 := hbl4.grown k2 (by have := hb4.size; omega) (by intro k e; simp at e; omega)
      obtain ⟨⟨r0, r1, r2, r3, r4⟩, q0, q1, q2, q3, q4⟩ := hres4
      obtain ⟨x0, x1, x2, x3, x4⟩ := k1.all
      clear hs3 hrd3 hres3 hm3 hbl3 hb4 hm4 hbl4 k1 k2 k3
      unfold five at *
      go_wp2_with fail
      exact bodyPost_ret (v := .agg #[.bool false, .int .u64 0, .slice ao2 zs.length cap2, .int .i64 a, .int .i64 u]) (by simp [results, Try.results20, go_sem, x0, x1, x2, x3, x4]) rfl ⟨by rw [H1.out, H2.out, H3.out, H4.out, H5.out]; exact ⟨ao2, cap2, rfl, hm5.mono (by omega)⟩, hbl5⟩
    · obtain ⟨n0, n1, hh⟩ := of_decide_eq_true hok
      obtain ⟨N, rfl⟩ := Int.eq_ofNat_of_zero_le n0
      have H1 : Hid (tkB zs a u N = true) := by show tkB zs a u N = true; simp [tkB, hv, hok]
      have H2 : Hid (tkV zs a u N = field (bnum zs) a.toNat N) := by show tkV zs a u N = field (bnum zs) a.toNat N; simp [tkV, hv, hok]
      have H3 : Hid (tkZ zs a u N = zs.drop ((a + N) / 8).toNat) := by show tkZ zs a u N = zs.drop ((a + N) / 8).toNat; simp [tkZ, hv, hok]
      have H4 : Hid (tkA zs a u N = (a + N) % 8) := by show tkA zs a u N = (a + N) % 8; simp [tkA, hv, hok]
      have H5 : Hid (tkU zs a u N = u + N) := by show tkU zs a u N = u + N; simp [tkU, hv, hok]
      have HH : Hid (hasB zs.length a u N = true) := hh
      have hcut : ((a + N) / 8).toNat ≤ zs.length := by have := of_decide_eq_true hh; have := vld_out hv; omega
      clear hv hok hh
      go_enter Try.func20, Try.ntmps20
      go_wp2_with fail
      refine (valid_any ao zs.length cap a u _).mono ?_
      rintro e w1 ⟨rfl, hb1⟩
      have hres1 := (five_new (w.alloc (.cells #[.slice ao zs.length cap, .int .i64 a, .int .i64 u] 26)) (.bool false) (.int .u64 0) (.slice none 0 0) (.int .i64 0) (.int .i64 0) 37).grown (grownBy_of_below hb1 none) (by simp)
      have harg1 := ((src_new w (.slice ao zs.length cap) a u 26).grown (World.grownBy_alloc _ (.cells #[.bool false, .int .u64 0, .slice none 0 0, .int .i64 0, .int .i64 0] 37) none) (by simp)).grown (grownBy_of_below hb1 none) (by simp)
      simp only [World.size_alloc] at hres1
      obtain ⟨g0, g1, g2, _, _, _⟩ := harg1
      have hz1 : w.heap.size + 1 < w1.heap.size := by have := hb1.size; simp at this; omega
      have hbl1 : Below w.heap.size w w1 := (((Below.refl w.heap.size w).alloc (Nat.le_refl _) _).alloc (by simp) _).trans (hb1.mono (by simp; omega))
      have hr1 := hr.below hbl1
      rw [HV.out]
      clear hb1 hr
      go_wp2_with fail
      refine (openSource_any ao cap zs a u w1 hr1 hnil hn).mono ?_
      rintro e w2 ⟨p, ao2, cap2, rfl, hs2, hm2, hp2, hpz2, hpb2, hb2⟩
      have hal : Below w2.heap.size w2 (w2.alloc (.cells #[.pointer (some ⟨p, 0, none⟩)] 68)) := (Below.refl _ _).alloc (Nat.le_refl _) _
      have hz2 := hb2.size
      have hres2 := (hres1.grown (grownBy_of_below hb2 none) (by simp)).grown (grownBy_of_below hal none) (by simp)
      have hbl2 := (hbl1.trans (hb2.mono (by omega))).trans (hal.mono (by omega))
      have hs2' := hs2.grown (grownBy_of_below hal none) (by simp)
      have hm2' := hm2.below hal
      have hrd : (w2.alloc (.cells #[.pointer (some ⟨p, 0, none⟩)] 68)).cell? ⟨w2.heap.size, 0, none⟩ = some (.pointer (some ⟨p, 0, none⟩)) := by simp [go_sem]
      clear g0 g1 g2 hr1 hb2 hres1 hbl1 hs2 hm2 hal
      go_wp2_with fail
      refine (take_yes p ao2 cap2 zs a u N _ hs2' hm2'.row hz hm2'.fits HV.out (by omega) HH.out).mono ?_
      rintro e w3 ⟨rfl, hs3, hg3⟩
      have hrd3 : w3.cell? ⟨w2.heap.size, 0, none⟩ = some (.pointer (some ⟨p, 0, none⟩)) := hg3.cell hrd (by simp; omega)
      have hres3 := hres2.grown hg3 (by simp; omega)
      have hm3 := (hm2'.grown hg3 (by intro k e; simp at e; subst e; exact hpb2)).cut ((a + N) / 8).toNat hcut
      have hbl3 := hbl2.grown hg3 (by simp; omega) (by intro k e; simp at e; omega)
      have hz3 : w2.heap.size < w3.heap.size := by have := hg3.size; simp at this; omega
      rw [← List.length_drop] at hs3
      clear hrd hres2 hs2' hm2' hbl2 hg3
      generalize zs.drop ((a + N) / 8).toNat = zd at *
      generalize cutAt ao2 cap2 ((a + N) / 8).toNat = ao3 at *
      generalize cap2 - ((a + N) / 8).toNat = cap3 at *
      go_wp2_with fail
      refine (state_any p _ _ _ _ _ _ hs3).mono ?_
      rintro e w4 ⟨rfl, hb4⟩
      have hres4 := hres3.grown (grownBy_of_below hb4 none) (by simp)
      have hm4 := hm3.below hb4
      have hbl4 := hbl3.trans (hb4.mono (by omega))
      obtain ⟨k1, k2, k3⟩ := five_set hres4 (.bool true) (.int .u64 (field (bnum zs) a.toNat N : Nat)) (.slice ao3 zd.length cap3) (.int .i64 ((a + N) % 8)) (.int .i64 (u + N))
      have hm5 := hm4.grown k2 (by intro k e; simp at e; subst e; exact hm4.far (by omega))
      have hbl5 := hbl4.grown k2 (by have := hb4.size; omega) (by intro k e; simp at e; omega)
      obtain ⟨⟨r0, r1, r2, r3, r4⟩, q0, q1, q2, q3, q4⟩ := hres4
      obtain ⟨x0, x1, x2, x3, x4⟩ := k1.all
      clear hs3 hrd3 hres3 hm3 hbl3 hb4 hm4 hbl4 k1 k2 k3
      unfold five at *
      go_wp2_with fail
      exact bodyPost_ret (v := .agg #[.bool true, .int .u64 (field (bnum zs) a.toNat N : Nat), .slice ao3 zd.length cap3, .int .i64 ((a + N) % 8), .int .i64 (u + N)]) (by simp [results, Try.results20, go_sem, x0, x1, x2, x3, x4]) rfl ⟨by rw [H1.out, H2.out, H3.out, H4.out, H5.out]; exact ⟨ao3, cap3, rfl, hm5.mono (by omega)⟩, hbl5⟩
  · have HV : Hid (vld zs.length a u = false) := Bool.eq_false_iff.2 hv
    have H1 : Hid (tkB zs a u n = false) := if_neg hv
    have H2 : Hid (tkV zs a u n = 0) := if_neg hv
    have H3 : Hid (tkZ zs a u n = []) := if_neg hv
    have H4 : Hid (tkA zs a u n = 0) := if_neg hv
    have H5 : Hid (tkU zs a u n = 0) := if_neg hv
    clear hv
    go_enter Try.func20, Try.ntmps20
    go_wp2_with fail
    refine (valid_any ao zs.length cap a u _).mono ?_
    rintro e w1 ⟨rfl, hb1⟩
    have hres1 := (five_new (w.alloc (.cells #[.slice ao zs.length cap, .int .i64 a, .int .i64 u] 26)) (.bool false) (.int .u64 0) (.slice none 0 0) (.int .i64 0) (.int .i64 0) 37).grown (grownBy_of_below hb1 none) (by simp)
    simp only [World.size_alloc] at hres1
    have hz1 : w.heap.size + 1 < w1.heap.size := by have := hb1.size; simp at this; omega
    have hbl1 : Below w.heap.size w w1 := (((Below.refl w.heap.size w).alloc (Nat.le_refl _) _).alloc (by simp) _).trans (hb1.mono (by simp; omega))
    obtain ⟨k1, k2, k3⟩ := five_set hres1 (.bool false) (.int .u64 0) (.slice none 0 0) (.int .i64 0) (.int .i64 0)
    have hbl5 := hbl1.grown k2 (by omega) (by intro k e; simp at e; omega)
    obtain ⟨⟨r0, r1, r2, r3, r4⟩, q0, q1, q2, q3, q4⟩ := hres1
    obtain ⟨x0, x1, x2, x3, x4⟩ := k1.all
    rw [HV.out]
    clear hb1 hr k1 k2 k3
    unfold five at *
    go_wp2_with fail
    exact bodyPost_ret (v := .agg #[.bool false, .int .u64 0, .slice none 0 0, .int .i64 0, .int .i64 0]) (by simp [results, Try.results20, go_sem, x0, x1, x2, x3, x4]) rfl ⟨by rw [H1.out, H2.out, H3.out, H4.out, H5.out]; exact ⟨none, 0, rfl, Mine.nothing _ _⟩, hbl5⟩
end Go.Proofs.Ytmfacacpoajpgab
