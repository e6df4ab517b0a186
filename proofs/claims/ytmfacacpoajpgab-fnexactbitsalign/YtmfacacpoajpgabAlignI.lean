import Derived.Test.YtmfacacpoajpgabAlign
namespace Go.Proofs.Ytmfacacpoajpgab
open Go.RowKit
attribute [local go_sem ↓] Go.wp_at_zero Go.wp_at_succ

theorem resB_nothing (B : Nat) (w : World) : ResB B w (.returned (.agg #[.slice none 0 0, .int .i64 0, .int .i64 0])) [] 0 0 := ⟨none, 0, rfl, Mine.nothing _ _⟩

/-! What BitsAlign makes of a reader. -/
def alZ (zs : List Int) (a u : Int) : List Int := if vld zs.length a u then zs.drop (cutA a) else []
def alU (zs : List Int) (a u : Int) : Int := if vld zs.length a u then u + restA a else 0

theorem bits_new (w : World) (x y z : Value) (t : TypeId) : ∀ i : Nat, (w.alloc (.cells #[x, y, z] t)).cell? ⟨w.heap.size, i, none⟩ = #[x, y, z][i]? := fun i => by simp [go_sem]

set_option maxRecDepth 100000 in
set_option maxHeartbeats 3200000 in
/-- impl.BitsAlign. -/
theorem bitsAlign_any (ao : Option Addr) (cap : Nat) (zs : List Int) (a u : Int) (w : World) (hr : Row w ao zs) (hnil : ao = none → cap = 0) (hn : zs.length ≤ 140737488355328) :
    Calls Try.prog 25 #[.agg #[.slice ao zs.length cap, .int .i64 a, .int .i64 u]] w fun e w' => ResB w.heap.size w' e (alZ zs a u) 0 (alU zs a u) ∧ Below w.heap.size w w' := by
  by_cases hv : vld zs.length a u = true
  · have HV : Hid (vld zs.length a u = true) := hv
    have HZ : Hid (alZ zs a u = zs.drop (cutA a)) := if_pos hv
    have HU : Hid (alU zs a u = u + restA a) := if_pos hv
    have hk : cutA a ≤ zs.length := by have := vld_out hv; unfold cutA; split <;> omega
    clear hv
    go_enter Try.func25, Try.ntmps25
    go_wp2_with fail
    refine (valid_any ao zs.length cap a u _).mono ?_
    rintro e w1 ⟨rfl, hb1⟩
    have hres1 := (src_new (w.alloc (.cells #[.slice ao zs.length cap, .int .i64 a, .int .i64 u] 26)) (.slice none 0 0) 0 0 26).grown (grownBy_of_below hb1 none) (by simp)
    have harg1 := (src_alloc (src_new w (.slice ao zs.length cap) a u 26) (.cells #[.slice none 0 0, .int .i64 0, .int .i64 0] 26)).grown (grownBy_of_below hb1 none) (by simp)
    simp only [World.size_alloc] at hres1
    obtain ⟨g0, g1, g2, _, _, _⟩ := harg1
    have hz1 : w.heap.size + 1 < w1.heap.size := by have := hb1.size; simp at this; omega
    have hbl1 : Below w.heap.size w w1 := (((Below.refl w.heap.size w).alloc (Nat.le_refl _) _).alloc (by simp) _).trans (hb1.mono (by simp; omega))
    have hr1 := hr.below hbl1
    rw [HV.out]
    go_wp2_with fail
    refine (openSource_any ao cap zs a u w1 hr1 hnil hn).mono ?_
    rintro e w2 ⟨p, ao2, cap2, rfl, hs2, hm2, hp2, hpz2, hpb2, hb2⟩
    have hres2 := hres1.grown (grownBy_of_below hb2 none) (by simp)
    have hbl2 := hbl1.trans (hb2.mono (by omega))
    clear g0 g1 g2 hr hr1 hb1 hb2 hres1 hbl1
    go_wp2_with fail
    refine (align_any p ao2 zs.length cap2 a u _ (src_alloc hs2 _) HV.out).mono ?_
    rintro e w3 ⟨rfl, hs3, hg3⟩
    have hrd : (w2.alloc (.cells #[.pointer (some ⟨p, 0, none⟩)] 68)).cell? ⟨w2.heap.size, 0, none⟩ = some (.pointer (some ⟨p, 0, none⟩)) := by simp [go_sem]
    have hrd3 : w3.cell? ⟨w2.heap.size, 0, none⟩ = some (.pointer (some ⟨p, 0, none⟩)) := hg3.cell hrd (by simp; omega)
    have hres3 := (src_alloc hres2 (.cells #[.pointer (some ⟨p, 0, none⟩)] 68)).grown hg3 (by simp; omega)
    have hm3 := ((hm2.below ((Below.refl _ _).alloc (Nat.le_refl _) (.cells #[.pointer (some ⟨p, 0, none⟩)] 68))).grown hg3 (by intro k e; simp at e; subst e; exact hpb2)).cut (cutA a) hk
    have hbl3 := (hbl2.alloc (by omega) (.cells #[.pointer (some ⟨p, 0, none⟩)] 68)).grown hg3 (by simp; omega) (by intro k e; simp at e; omega)
    clear hrd hres2 hg3 hs2 hm2 hbl2
    rw [← List.length_drop] at hs3
    generalize zs.drop (cutA a) = zd at *
    go_wp2_with fail
    refine (state_any p _ _ _ _ _ _ hs3).mono ?_
    rintro e w4 ⟨rfl, hb4⟩
    have hres4 := hres3.grown (grownBy_of_below hb4 none) (by simp)
    have hm4 := hm3.below hb4
    have hz3 : w.heap.size + 1 < w3.heap.size := World.block_lt_of_cell? w3 _ hres3.1
    have hbl4 := hbl3.trans (hb4.mono (by omega))
    obtain ⟨k1, k2, k3⟩ := src_set hres4 (.slice (cutAt ao2 cap2 (cutA a)) zd.length (cap2 - cutA a)) 0 (u + restA a)
    have hm5 := hm4.grown k2 (by intro k e; simp at e; subst e; exact hm4.far (by omega))
    have hbl5 := hbl4.grown k2 (by have := hb4.size; omega) (by intro k e; simp at e; omega)
    obtain ⟨r0, r1, r2, q0, q1, q2⟩ := hres4
    obtain ⟨x0, x1, x2, _, _, _⟩ := k1
    have hF : Hid (ResB w.heap.size _ _ (alZ zs a u) 0 (alU zs a u) ∧ Below w.heap.size w _) := ⟨⟨_, _, by rw [HZ.out, HU.out], (by rw [HZ.out]; exact hm5.mono (by omega))⟩, hbl5⟩
    clear hs3 hrd3 hres3 hm3 hbl3 hb4 hm4 hbl4 k2 hm5 hbl5 k3
    go_wp2_with fail
    exact bodyPost_ret (v := .agg #[.slice (cutAt ao2 cap2 (cutA a)) zd.length (cap2 - cutA a), .int .i64 0, .int .i64 (u + restA a)]) (by simp [results, Try.results25, go_sem, x0, x1, x2]) rfl hF.out
  · have HV : Hid (vld zs.length a u = false) := Bool.eq_false_iff.2 hv
    have HZ : Hid (alZ zs a u = []) := if_neg hv
    have HU : Hid (alU zs a u = 0) := if_neg hv
    clear hv
    go_enter Try.func25, Try.ntmps25
    go_wp2_with fail
    refine (valid_any ao zs.length cap a u _).mono ?_
    rintro e w1 ⟨rfl, hb1⟩
    have hres1 := (src_new (w.alloc (.cells #[.slice ao zs.length cap, .int .i64 a, .int .i64 u] 26)) (.slice none 0 0) 0 0 26).grown (grownBy_of_below hb1 none) (by simp)
    simp only [World.size_alloc] at hres1
    have hz1 : w.heap.size + 1 < w1.heap.size := by have := hb1.size; simp at this; omega
    have hbl1 : Below w.heap.size w w1 := (((Below.refl w.heap.size w).alloc (Nat.le_refl _) _).alloc (by simp) _).trans (hb1.mono (by simp; omega))
    obtain ⟨k1, k2, k3⟩ := src_set hres1 (.slice none 0 0) 0 0
    have hbl5 := hbl1.grown k2 (by omega) (by intro k e; simp at e; omega)
    obtain ⟨r0, r1, r2, q0, q1, q2⟩ := hres1
    obtain ⟨x0, x1, x2, _, _, _⟩ := k1
    rw [HV.out]
    clear hb1 hr k2 k3
    go_wp2_with fail
    exact bodyPost_ret (v := .agg #[.slice none 0 0, .int .i64 0, .int .i64 0]) (by simp [results, Try.results25, go_sem, x0, x1, x2]) rfl ⟨by rw [HZ.out, HU.out]; exact resB_nothing _ _, hbl5⟩
end Go.Proofs.Ytmfacacpoajpgab
