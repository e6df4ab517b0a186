import Derived.Test.YtmfacacpoajpgabSrc
import Derived.Test.YtmfacacpoajpgabValidI
import Derived.Test.YtmfacacpoajpgabValid
namespace Go.Proofs.Ytmfacacpoajpgab
open Go.RowKit
attribute [local go_sem ↓] Go.wp_at_zero Go.wp_at_succ

/-! What BitsFeed makes of a reader. -/
def fdZ (zs cs : List Int) (a u : Int) : List Int := if vld zs.length a u then (if zs.length + cs.length ≤ 1000000 then zs ++ cs else zs) else []
def fdA (zs : List Int) (a u : Int) : Int := if vld zs.length a u then a else 0
def fdU (zs : List Int) (a u : Int) : Int := if vld zs.length a u then u else 0
theorem fdZ_len (zs cs : List Int) (a u : Int) : (fdZ zs cs a u).length ≤ zs.length + cs.length := by
  unfold fdZ
  split
  · split
    · simp
    · omega
  · simp

theorem resB_nil (B : Nat) (w : World) : ResB B w (.returned (.agg #[.slice none 0 0, .int .i64 0, .int .i64 0])) [] 0 0 := ⟨none, 0, rfl, Mine.nothing _ _⟩

theorem src_set0 {w : World} {p : Nat} {v : Value} {a u : Int} (h : Src w p v a u) (v' : Value) :
    Src (w.setCell ⟨p, 0, none⟩ v') p v' a u ∧ w.grownBy (w.setCell ⟨p, 0, none⟩ v') (some p) ∧ (w.setCell ⟨p, 0, none⟩ v').heap.size = w.heap.size := by
  obtain ⟨c0, c1, c2, f0, f1, f2⟩ := h
  refine ⟨⟨?_, ?_, ?_, ?_, ?_, ?_⟩, grownBy_setCell w ⟨p, 0, none⟩ _, by simp⟩
  · exact World.cell?_setCell_same _ _ _ c0
  · rw [World.cell?_setCell_other _ _ _ _ (by simp)]; exact c1
  · rw [World.cell?_setCell_other _ _ _ _ (by simp)]; exact c2
  · simp [World.frozen?_setCell, f0]
  · simp [World.frozen?_setCell, f1]
  · simp [World.frozen?_setCell, f2]

set_option maxHeartbeats 3200000 in
/-- (*source).feed. -/
theorem feed_any (p : Nat) (ao co : Option Addr) (cap cc : Nat) (zs cs : List Int) (a u : Int) (B : Nat) (w : World) (hs : Src w p (.slice ao zs.length cap) a u) (ho : OwnsB 5 B w ao cap zs) (hB : B ≤ w.heap.size) (hpb : blk ao ≠ some p) (hr : Row w co cs) (hnil : co = none → cs.length = 0 ∧ cc = 0)
    (hl : zs.length ≤ 1000000) (hc : cs.length ≤ 140737488355328) :
    Calls Try.prog 44 #[.pointer (some ⟨p, 0, none⟩), .slice co cs.length cc] w fun e w' => e = .returned (.tuple #[]) ∧ ∃ ao' cap',
      Src w' p (.slice ao' (if zs.length + cs.length ≤ 1000000 then zs ++ cs else zs).length cap') a u ∧ Mine B w' ao' cap' (if zs.length + cs.length ≤ 1000000 then zs ++ cs else zs) ∧
      ∃ wm, w.grownBy wm (blk ao) ∧ wm.grownBy w' (some p) := by
  obtain ⟨i0, hi, hz0, hz1, hz2⟩ := info_parts Try.info_u8s
  have HN : Hid (co = none → cs.length = 0 ∧ cc = 0) := hnil
  clear hnil
  have hp : p < w.heap.size := World.block_lt_of_cell? w _ hs.1
  by_cases h : zs.length + cs.length ≤ 1000000
  · rw [if_pos h]
    have hd : decide ((zs.length : Int) + (cs.length : Int) ≤ 1000000) = true := decide_eq_true (by omega)
    have hs' := hs
    obtain ⟨c0, c1, c2, f0, f1, f2⟩ := hs'
    go_enter Try.func44, Try.ntmps44
    go_wp2_with (at_builtin; refine wpList_append_row _ rfl _ _ 22 rfl B 5 i0 (.int .u8 0) 1 Try.underlying22 hi hz0 hz1 hz2 rfl (.slice ao zs.length cap) zs.length (zs.map (Value.int .u8)) rfl ho co cc cs rfl hr HN.out (by unfold maxLen; omega) (by omega) hB ?_)
    intro v' w1 hown hgrow hat
    rw [← List.map_append] at hown
    obtain ⟨ao', cap', e', ho'⟩ := OwnsB.of hown
    subst e'
    have hg : w.grownBy w1 (blk ao) := by
      have : (Value.slice ao zs.length cap).ownBlock = blk ao := by cases ao <;> rfl
      rw [this] at hgrow
      exact hgrow
    have hs1 := hs.grown hg (fun e => hpb e.symm)
    obtain ⟨k1, k2, k3⟩ := src_set0 hs1 (.slice ao' (zs ++ cs).length cap')
    have hm := ho'.mine.grown k2 (by
      intro k e; simp at e; subst e
      intro hb
      have hown' : (Value.slice ao' (zs ++ cs).length cap').ownBlock = blk ao' := by cases ao' <;> rfl
      have hown2 : (Value.slice ao zs.length cap).ownBlock = blk ao := by cases ao <;> rfl
      rw [hown', hown2] at hat
      rcases hat with h1 | h1
      · rw [h1] at hb; exact hpb hb
      · rw [h1] at hb; simp at hb; omega)
    obtain ⟨y0, y1, y2, e0, e1, e2⟩ := hs1
    clear hown hgrow hat ho ho' k3 hr hs c0 c1 c2 f0 f1 f2
    generalize hzc : zs ++ cs = zc at *
    have HZC : Hid (zs ++ cs = zc) := hzc
    clear hzc
    go_wp2_with fail
    go_end0
    refine ⟨rfl, ao', cap', ?_⟩
    rw [HZC.out]
    exact ⟨k1, hm, w1, hg, k2⟩
  · rw [if_neg h]
    have hd : decide ((zs.length : Int) + (cs.length : Int) ≤ 1000000) = false := decide_eq_false (by omega)
    have hs' := hs
    obtain ⟨c0, c1, c2, f0, f1, f2⟩ := hs'
    have hm := ho.mine
    clear ho hr
    go_enter Try.func44, Try.ntmps44
    go_wp2_with fail
    go_end0
    exact ⟨rfl, ao, cap, hs, hm, w, World.grownBy.refl _ _, World.grownBy.refl _ _⟩

set_option maxRecDepth 100000 in
set_option maxHeartbeats 3200000 in
/-- impl.BitsFeed. -/
theorem bitsFeed_any (ao co : Option Addr) (cap cc : Nat) (zs cs : List Int) (a u : Int) (w : World) (hr : Row w ao zs) (hnil : ao = none → cap = 0) (hn : zs.length ≤ 140737488355328) (hrc : Row w co cs) (hnc : co = none → cs.length = 0 ∧ cc = 0) (hc : cs.length ≤ 140737488355328) :
    Calls Try.prog 13 #[.agg #[.slice ao zs.length cap, .int .i64 a, .int .i64 u], .slice co cs.length cc] w fun e w' => ResB w.heap.size w' e (fdZ zs cs a u) (fdA zs a u) (fdU zs a u) ∧ Below w.heap.size w w' := by
  have HNC : Hid (co = none → cs.length = 0 ∧ cc = 0) := hnc
  clear hnc
  by_cases hv : vld zs.length a u = true
  · have HV : Hid (vld zs.length a u = true) := hv
    have HZ : Hid (fdZ zs cs a u = if zs.length + cs.length ≤ 1000000 then zs ++ cs else zs) := if_pos hv
    have HA : Hid (fdA zs a u = a) := if_pos hv
    have HU : Hid (fdU zs a u = u) := if_pos hv
    have hl : zs.length ≤ 1000000 := (vld_out hv).2.2.2.1
    clear hv
    go_enter Try.func13, Try.ntmps13
    go_wp2_with fail
    refine (valid_any ao zs.length cap a u _).mono ?_
    rintro e w1 ⟨rfl, hb1⟩
    have hres1 := (src_new (w.alloc (.cells #[.slice ao zs.length cap, .int .i64 a, .int .i64 u] 26)) (.slice none 0 0) 0 0 26).grown (grownBy_of_below hb1 none) (by simp)
    have harg1 := ((src_new w (.slice ao zs.length cap) a u 26).grown (World.grownBy_alloc _ (.cells #[.slice none 0 0, .int .i64 0, .int .i64 0] 26) none) (by simp)).grown (grownBy_of_below hb1 none) (by simp)
    simp only [World.size_alloc] at hres1
    obtain ⟨g0, g1, g2, _, _, _⟩ := harg1
    have hz1 : w.heap.size + 1 < w1.heap.size := by have := hb1.size; simp at this; omega
    have hbl1 : Below w.heap.size w w1 := (((Below.refl w.heap.size w).alloc (Nat.le_refl _) _).alloc (by simp) _).trans (hb1.mono (by simp; omega))
    have hr1 := hr.below hbl1
    rw [HV.out]
    clear hb1 hr
    go_wp2_with fail
    refine (openSource_owns ao cap zs a u w1 hr1 hnil hn).mono ?_
    rintro e w2 ⟨p, ao2, cap2, rfl, hs2, hm2, hp2, hpz2, hpb2, hb2⟩
    have hres2 := hres1.grown (grownBy_of_below hb2 none) (by simp)
    have hbl2 := hbl1.trans (hb2.mono (by omega))
    have hrc2 := hrc.below hbl2
    have hal : Below w2.heap.size w2 (w2.alloc (.cells #[.pointer (some ⟨p, 0, none⟩)] 68)) := (Below.refl _ _).alloc (Nat.le_refl _) _
    have hz2 : w1.heap.size ≤ w2.heap.size := hb2.size
    have hlt2 := hm2.mine.lies
    clear g0 g1 g2 hr1 hb2 hres1 hbl1 hrc
    go_wp2_with fail
    refine (feed_any p ao2 co cap2 cc zs cs a u w1.heap.size _ (hs2.grown (grownBy_of_below hal none) (by simp)) (hm2.below hal) (by simp; omega) hpb2 (hrc2.below hal) HNC.out hl hc).mono ?_
    rintro e w3 ⟨rfl, ao3, cap3, hs3, hm3, wm, hgm, hg3⟩
    have hrd : (w2.alloc (.cells #[.pointer (some ⟨p, 0, none⟩)] 68)).cell? ⟨w2.heap.size, 0, none⟩ = some (.pointer (some ⟨p, 0, none⟩)) := by simp [go_sem]
    have hrdm : wm.cell? ⟨w2.heap.size, 0, none⟩ = some (.pointer (some ⟨p, 0, none⟩)) := hgm.cell hrd (by
      intro e
      cases ao2 with
      | none => cases e
      | some ad => have := (hlt2 ad rfl).2.1; simp [blk] at e; omega)
    have hrd3 : w3.cell? ⟨w2.heap.size, 0, none⟩ = some (.pointer (some ⟨p, 0, none⟩)) := hg3.cell hrdm (by simp; omega)
    have hres3 := ((hres2.grown (grownBy_of_below hal none) (by simp)).grown hgm (fun e => hm2.mine.far (k := w.heap.size + 1) (by omega) e.symm)).grown hg3 (by simp; omega)
    have hbl3 := ((hbl2.trans (hal.mono (by omega))).grown hgm (by simp; omega) (fun k e => by
      rcases Nat.lt_or_ge k w1.heap.size with h | h
      · exact absurd e (hm2.mine.far h)
      · omega)).grown hg3 (by have := hgm.size; simp at this; omega) (by intro k e; simp at e; omega)
    have hz3 : w2.heap.size < w3.heap.size := by have := hgm.size; have := hg3.size; simp at *; omega
    clear hrd hrdm hres2 hg3 hgm hs2 hm2 hbl2 hrc2 hal hlt2
    generalize hzf : (if zs.length + cs.length ≤ 1000000 then zs ++ cs else zs) = zf at *
    clear hzf
    go_wp2_with fail
    refine (state_any p _ _ _ _ _ _ hs3).mono ?_
    rintro e w4 ⟨rfl, hb4⟩
    have hres4 := hres3.grown (grownBy_of_below hb4 none) (by simp)
    have hm4 := hm3.below hb4
    have hbl4 := hbl3.trans (hb4.mono (by omega))
    obtain ⟨k1, k2, k3⟩ := src_set hres4 (.slice ao3 zf.length cap3) a u
    have hm5 := hm4.grown k2 (by intro k e; simp at e; subst e; exact hm4.far (by omega))
    have hbl5 := hbl4.grown k2 (by have := hb4.size; omega) (by intro k e; simp at e; omega)
    obtain ⟨r0, r1, r2, q0, q1, q2⟩ := hres4
    obtain ⟨x0, x1, x2, _, _, _⟩ := k1
    clear hs3 hrd3 hres3 hm3 hbl3 hb4 hm4 hbl4 k2 k3
    go_wp2_with fail
    exact bodyPost_ret (v := .agg #[.slice ao3 zf.length cap3, .int .i64 a, .int .i64 u]) (by simp [results, Try.results13, go_sem, x0, x1, x2]) rfl ⟨by rw [HZ.out, HA.out, HU.out]; exact ⟨ao3, cap3, rfl, hm5.mono (by omega)⟩, hbl5⟩
  · have HV : Hid (vld zs.length a u = false) := Bool.eq_false_iff.2 hv
    have HZ : Hid (fdZ zs cs a u = []) := if_neg hv
    have HA : Hid (fdA zs a u = 0) := if_neg hv
    have HU : Hid (fdU zs a u = 0) := if_neg hv
    clear hv
    go_enter Try.func13, Try.ntmps13
    go_wp2_with fail
    refine (valid_any ao zs.length cap a u _).mono ?_
    rintro e w1 ⟨rfl, hb1⟩
    have hres1 := (src_new (w.alloc (.cells #[.slice ao zs.length cap, .int .i64 a, .int .i64 u] 26)) (.slice none 0 0) 0 0 26).grown (grownBy_of_below hb1 none) (by simp)
    simp only [World.size_alloc] at hres1
    have hz1 : w.heap.size + 1 < w1.heap.size := by have := hb1.size; simp at this; omega
    have hbl1 : Below w.heap.size w w1 := (((Below.refl w.heap.size w).alloc (Nat.le_refl _) _).alloc (by simp) _).trans (hb1.mono (by simp; omega))
    obtain ⟨k1, k2, k3⟩ := src_set hres1 (.slice none 0 0) 0 0
    have hbl5 := hbl1.grown k2 (by omega) (by intro k e; simp at e; omega)
    obtain ⟨r0, r1, r2, q0, q1, q2⟩ := hres1
    obtain ⟨x0, x1, x2, _, _, _⟩ := k1
    rw [HV.out]
    clear hb1 hr hrc k2 k3
    go_wp2_with fail
    exact bodyPost_ret (v := .agg #[.slice none 0 0, .int .i64 0, .int .i64 0]) (by simp [results, Try.results13, go_sem, x0, x1, x2]) rfl ⟨by rw [HZ.out, HA.out, HU.out]; exact resB_nil _ _, hbl5⟩
end Go.Proofs.Ytmfacacpoajpgab
