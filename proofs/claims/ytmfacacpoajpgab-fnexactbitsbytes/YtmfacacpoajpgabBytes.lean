import Derived.Test.YtmfacacpoajpgabSrc
import Derived.Test.YtmfacacpoajpgabFive
import Derived.Test.YtmfacacpoajpgabValidI
namespace Go.Proofs.Ytmfacacpoajpgab
open Go.RowKit
attribute [local go_sem ↓] Go.wp_at_zero Go.wp_at_succ

set_option maxHeartbeats 3200000 in
/-- (byteReader).bytes, where it is not Ok. -/
theorem bytes_no (p : Nat) (ao : Option Addr) (len cap : Nat) (a u n : Int) (w : World) (hs : Src w p (.slice ao len cap) a u) (hv : vld len a u = true) (hno : a ≠ 0 ∨ (a = 0 ∧ n < 0) ∨ (a = 0 ∧ 0 ≤ n ∧ (len : Int) < n) ∨ (a = 0 ∧ 0 ≤ n ∧ n ≤ len ∧ hasB len 0 u (8 * n) = false)) :
    Calls Try.prog 52 #[.agg #[.pointer (some ⟨p, 0, none⟩)], .int .i64 n] w fun e w' => e = .returned (.tuple #[.slice none 0 0, .bool false]) ∧ Below w.heap.size w w' := by
  obtain ⟨a0, a7, al, hl, u0, u1, um⟩ := vld_out hv
  clear al um hv
  have hp : p < w.heap.size := World.block_lt_of_cell? w _ hs.1
  have hne : w.heap.size ≠ p := by omega
  have hs' := hs
  obtain ⟨c0, c1, c2, f0, f1, f2⟩ := hs'
  rcases hno with h | ⟨rfl, h⟩ | ⟨rfl, h0, h⟩ | ⟨rfl, h0, h1, h2⟩
  · have hb : (a != 0) = true := by simpa using h
    clear hs h
    go_enter Try.func52, Try.ntmps52
    go_wp2_with fail
    go_ret2
    exact ⟨rfl, (Below.refl _ _).alloc (Nat.le_refl _) _⟩
  · clear hs
    go_enter Try.func52, Try.ntmps52
    go_wp2_with fail
    go_ret2
    exact ⟨rfl, (Below.refl _ _).alloc (Nat.le_refl _) _⟩
  · have h' : ¬ n < 0 := by omega
    clear hs
    go_enter Try.func52, Try.ntmps52
    go_wp2_with fail
    go_ret2
    exact ⟨rfl, (Below.refl _ _).alloc (Nat.le_refl _) _⟩
  · have HB : Hid (hasB len 0 u (8 * n) = false) := h2
    clear h2
    have hs2 := hs.grown (World.grownBy_alloc w (Obj.cells #[Value.pointer (some ⟨p, 0, none⟩)] 76) none) (by simp)
    go_enter Try.func52, Try.ntmps52
    go_wp2_with fail
    refine (has_any p ao len cap 0 u (8 * n) _ hs2 hl a0 a7 u0 u1 (by omega) (by omega)).mono ?_
    rintro e w' ⟨rfl, q, rfl⟩
    rw [HB.out]
    go_wp2_with fail
    go_ret2
    exact ⟨rfl, ((Below.refl _ _).alloc (Nat.le_refl _) _).trans (below_drewN' _ _ _)⟩

set_option maxHeartbeats 3200000 in
/-- (byteReader).bytes, Ok. -/
theorem bytes_yes (p : Nat) (ao : Option Addr) (cap : Nat) (zs : List Int) (u : Int) (n : Nat) (w : World) (hs : Src w p (.slice ao zs.length cap) 0 u) (hr : Row w ao zs) (hnil : ao = none → cap = 0) (hfit : zs.length ≤ cap) (hv : vld zs.length 0 u = true) (hnl : n ≤ zs.length) (hh : hasB zs.length 0 u (8 * n) = true) :
    Calls Try.prog 52 #[.agg #[.pointer (some ⟨p, 0, none⟩)], .int .i64 n] w fun e w' => ∃ bo bc, e = .returned (.tuple #[.slice bo n bc, .bool true]) ∧ Mine w.heap.size w' bo bc (zs.take n) ∧
      Src w' p (.slice (cutAt ao cap n) (zs.length - n) (cap - n)) 0 (u + 8 * n) ∧ w.grownBy w' (some p) := by
  obtain ⟨a0, a7, al, hl, u0, u1, um⟩ := vld_out hv
  have HB : Hid (hasB zs.length 0 u (8 * n) = true) := hh
  clear al um hv hh
  have hp : p < w.heap.size := World.block_lt_of_cell? w _ hs.1
  have hne : w.heap.size ≠ p := by omega
  have hal := World.grownBy_alloc w (Obj.cells #[Value.pointer (some ⟨p, 0, none⟩)] 76) none
  have hs2 := hs.grown hal (by simp)
  have hr2 := hr.grown hal (by simp)
  have hrt : Row (w.alloc (Obj.cells #[Value.pointer (some ⟨p, 0, none⟩)] 76)) ao (zs.take n) := by
    intro i hi
    rw [List.length_take] at hi
    obtain ⟨b, off, e, hc⟩ := hr2 i (by omega)
    refine ⟨b, off, e, ?_⟩
    rw [hc]
    simp [List.getD, show i < n by omega]
  have hlt : (zs.take n).length = n := by rw [List.length_take]; omega
  have hrd : (w.alloc (.cells #[.pointer (some ⟨p, 0, none⟩)] 76)).cell? ⟨w.heap.size, 0, none⟩ = some (.pointer (some ⟨p, 0, none⟩)) := by simp [go_sem]
  obtain ⟨c0, c1, c2, f0, f1, f2⟩ := hs
  generalize zs.take n = zt at *
  go_enter Try.func52, Try.ntmps52
  go_wp2_with fail
  refine (has_any p ao zs.length cap 0 u (8 * n) _ hs2 hl a0 a7 u0 u1 (by omega) (by omega)).mono ?_
  rintro e w' ⟨rfl, q, rfl⟩
  rw [HB.out]
  go_wp2_with fail
  have hcb := copyBytes_any ao cap zt ((w.alloc (.cells #[.pointer (some ⟨p, 0, none⟩)] 76)).drewN q) (hrt.drewN q) hnil (by omega)
  rw [hlt] at hcb
  refine hcb.mono ?_
  rintro e w3 ⟨bo, bc, rfl, hm3, hb3⟩
  have hs3 := (hs2.drewN q).grown (grownBy_of_below hb3 none) (by simp)
  have hrd3 : w3.cell? ⟨w.heap.size, 0, none⟩ = some (.pointer (some ⟨p, 0, none⟩)) := (grownBy_of_below hb3 none).cell (by exact hrd) (by simp)
  have hg3 : w.grownBy w3 (some p) := grownBy_trans (grownBy_trans (World.grownBy_alloc w _ _) (grownBy_of_below (below_drewN' _ _ _) _)) (grownBy_of_below hb3 _)
  have hbp : blk bo ≠ some p := hm3.far (by show p < (w.alloc _).heap.size; simp; omega)
  have hm3' := hm3.mono (B' := w.heap.size) (by show w.heap.size ≤ (w.alloc _).heap.size; simp)
  clear hr2 hs2 hrd hb3 hr hal hcb hrt hm3 c0 c1 c2 f0 f1 f2 hlt
  go_wp2_with fail
  refine (pass_any p ao zs.length cap 0 u (8 * n) _ hs3 hl a0 a7 u0 u1 (by omega) (by omega)).mono ?_
  rintro e w4 ⟨rfl, h1, h2, h3⟩
  rw [show (0 + 8 * (n : Int)) / 8 = (n : Int) by omega, show (0 + 8 * (n : Int)) % 8 = 0 by omega, Int.toNat_natCast] at h1
  have hm4 := hm3'.grown h2 (by intro k e; simp at e; subst e; exact hbp)
  go_wp2_with fail
  go_ret2
  exact ⟨bo, bc, rfl, hm4, h1, grownBy_trans hg3 h2⟩

/-! What BitsBytes makes of a reader. -/
def byOk (zs : List Int) (a u n : Int) : Bool := decide (a = 0 ∧ 0 ≤ n ∧ n ≤ zs.length ∧ hasB zs.length 0 u (8 * n) = true)
def byB (zs : List Int) (a u n : Int) : Bool := if vld zs.length a u then byOk zs a u n else false
def byD (zs : List Int) (a u n : Int) : List Int := if vld zs.length a u then (if byOk zs a u n then zs.take n.toNat else []) else []
def byZ (zs : List Int) (a u n : Int) : List Int := if vld zs.length a u then (if byOk zs a u n then zs.drop n.toNat else zs) else []
def byA (zs : List Int) (a u n : Int) : Int := if vld zs.length a u then (if byOk zs a u n then 0 else a) else 0
def byU (zs : List Int) (a u n : Int) : Int := if vld zs.length a u then (if byOk zs a u n then u + 8 * n else u) else 0
theorem byZ_len (zs : List Int) (a u n : Int) : (byZ zs a u n).length ≤ zs.length := by
  unfold byZ
  split
  · split
    · rw [List.length_drop]; omega
    · omega
  · simp
theorem byD_len (zs : List Int) (a u n : Int) : (byD zs a u n).length ≤ zs.length := by
  unfold byD
  split
  · split
    · rw [List.length_take]; omega
    · simp
  · simp
theorem byOk_no {zs : List Int} {a u n : Int} (h : byOk zs a u n = false) : a ≠ 0 ∨ (a = 0 ∧ n < 0) ∨ (a = 0 ∧ 0 ≤ n ∧ (zs.length : Int) < n) ∨ (a = 0 ∧ 0 ≤ n ∧ n ≤ zs.length ∧ hasB zs.length 0 u (8 * n) = false) := by
  have h' := of_decide_eq_false h
  by_cases h1 : a = 0
  · by_cases h2 : n < 0
    · exact .inr (.inl ⟨h1, h2⟩)
    · by_cases h3 : (zs.length : Int) < n
      · exact .inr (.inr (.inl ⟨h1, by omega, h3⟩))
      · refine .inr (.inr (.inr ⟨h1, by omega, by omega, ?_⟩))
        cases hb : hasB zs.length 0 u (8 * n)
        · rfl
        · exact absurd ⟨h1, by omega, by omega, hb⟩ h'
  · exact .inl h1

def ResY (B : Nat) (w : World) (e : Ending) (ok : Bool) (ds zs : List Int) (a u : Int) : Prop :=
  ∃ bo bc ao cap, e = .returned (.agg #[.bool ok, .slice bo ds.length bc, .slice ao zs.length cap, .int .i64 a, .int .i64 u]) ∧ Mine B w bo bc ds ∧ Mine B w ao cap zs ∧ ∀ k, blk bo = some k → blk ao ≠ some k

set_option maxRecDepth 100000 in
set_option maxHeartbeats 3200000 in
/-- impl.BitsBytes. -/
theorem bitsBytes_any (ao : Option Addr) (cap : Nat) (zs : List Int) (a u n : Int) (w : World) (hr : Row w ao zs) (hnil : ao = none → cap = 0) (hn : zs.length ≤ 140737488355328) :
    Calls Try.prog 27 #[.agg #[.slice ao zs.length cap, .int .i64 a, .int .i64 u], .int .i64 n] w fun e w' =>
      ResY w.heap.size w' e (byB zs a u n) (byD zs a u n) (byZ zs a u n) (byA zs a u n) (byU zs a u n) ∧ Below w.heap.size w w' := by
  by_cases hv : vld zs.length a u = true
  · have HV : Hid (vld zs.length a u = true) := hv
    cases hok : byOk zs a u n
    · have H1 : Hid (byB zs a u n = false) := by show byB zs a u n = false; simp [byB, hv, hok]
      have H2 : Hid (byD zs a u n = []) := by show byD zs a u n = []; simp [byD, hv, hok]
      have H3 : Hid (byZ zs a u n = zs) := by show byZ zs a u n = zs; simp [byZ, hv, hok]
      have H4 : Hid (byA zs a u n = a) := by show byA zs a u n = a; simp [byA, hv, hok]
      have H5 : Hid (byU zs a u n = u) := by show byU zs a u n = u; simp [byU, hv, hok]
      have HNO : Hid (a ≠ 0 ∨ (a = 0 ∧ n < 0) ∨ (a = 0 ∧ 0 ≤ n ∧ (zs.length : Int) < n) ∨ (a = 0 ∧ 0 ≤ n ∧ n ≤ zs.length ∧ hasB zs.length 0 u (8 * n) = false)) := byOk_no hok
      clear hv hok
      go_enter Try.func27, Try.ntmps27
      go_wp2_with fail
      refine (valid_any ao zs.length cap a u _).mono ?_
      rintro e w1 ⟨rfl, hb1⟩
      have hres1 := (five_new (w.alloc (.cells #[.slice ao zs.length cap, .int .i64 a, .int .i64 u] 26)) (.bool false) (.slice none 0 0) (.slice none 0 0) (.int .i64 0) (.int .i64 0) 45).grown (grownBy_of_below hb1 none) (by simp)
      have harg1 := ((src_new w (.slice ao zs.length cap) a u 26).grown (World.grownBy_alloc _ (.cells #[.bool false, .slice none 0 0, .slice none 0 0, .int .i64 0, .int .i64 0] 45) none) (by simp)).grown (grownBy_of_below hb1 none) (by simp)
      simp only [World.size_alloc] at hres1
      obtain ⟨g0, g1, g2, _, _, _⟩ := harg1
      have hz1 : w.heap.size + 1 < w1.heap.size := by have := hb1.size; simp at this; omega
      have hbl1 : Below w.heap.size w w1 := (((Below.refl w.heap.size w).alloc (Nat.le_refl _) _).alloc (by simp) _).trans (hb1.mono (by simp; omega))
      have hr1 := hr.below hbl1
      rw [HV.out]
      clear hb1 hr
      go_wp2_with fail
      refine (openSource_any ao cap zs a u w1 hr1 hnil hn).mono ?_
      rintro e w2 ⟨p, ao2, cap2, rfl, hs2, hm2, hp2, hpz2, hpb2, hb2⟩
      have hal : Below w2.heap.size w2 (w2.alloc (.cells #[.pointer (some ⟨p, 0, none⟩)] 76)) := (Below.refl _ _).alloc (Nat.le_refl _) _
      have hz2 := hb2.size
      have hres2 := (hres1.grown (grownBy_of_below hb2 none) (by simp)).grown (grownBy_of_below hal none) (by simp)
      have hbl2 := (hbl1.trans (hb2.mono (by omega))).trans (hal.mono (by omega))
      have hs2' := hs2.grown (grownBy_of_below hal none) (by simp)
      have hm2' := hm2.below hal
      have hrd : (w2.alloc (.cells #[.pointer (some ⟨p, 0, none⟩)] 76)).cell? ⟨w2.heap.size, 0, none⟩ = some (.pointer (some ⟨p, 0, none⟩)) := by simp [go_sem]
      clear g0 g1 g2 hr1 hb2 hres1 hbl1 hs2 hm2 hal
      go_wp2_with fail
      refine (bytes_no p ao2 zs.length cap2 a u n _ hs2' HV.out HNO.out).mono ?_
      rintro e w3 ⟨rfl, hb3⟩
      have hrd3 : w3.cell? ⟨w2.heap.size, 0, none⟩ = some (.pointer (some ⟨p, 0, none⟩)) := (grownBy_of_below hb3 none).cell hrd (by simp)
      have hres3 := hres2.grown (grownBy_of_below hb3 none) (by simp)
      have hs3 := hs2'.grown (grownBy_of_below hb3 none) (by simp)
      have hm3 := hm2'.below hb3
      have hbl3 := hbl2.trans (hb3.mono (by simp; omega))
      have hz3 : w2.heap.size < w3.heap.size := by have := hb3.size; simp at this; omega
      clear hrd hres2 hs2' hm2' hbl2 hb3
      go_wp2_with fail
      refine (state_any p _ _ _ _ _ _ hs3).mono ?_
      rintro e w4 ⟨rfl, hb4⟩
      have hres4 := hres3.grown (grownBy_of_below hb4 none) (by simp)
      have hm4 := hm3.below hb4
      have hbl4 := hbl3.trans (hb4.mono (by omega))
      obtain ⟨k1, k2, k3⟩ := five_set hres4 (.bool false) (.slice none 0 0) (.slice ao2 zs.length cap2) (.int .i64 a) (.int .i64 u)
      have hm5 := hm4.grown k2 (by intro k e; simp at e; subst e; exact hm4.far (by omega))
      have hbl5 := hbl4.grown k2 (by have := hb4.size; omega) (by intro k e; simp at e; omega)
      obtain ⟨⟨r0, r1, r2, r3, r4⟩, q0, q1, q2, q3, q4⟩ := hres4
      obtain ⟨x0, x1, x2, x3, x4⟩ := k1.all
      clear hs3 hrd3 hres3 hm3 hbl3 hb4 hm4 hbl4 k1 k2 k3
      unfold five at *
      go_wp2_with fail
      exact bodyPost_ret (v := .agg #[.bool false, .slice none 0 0, .slice ao2 zs.length cap2, .int .i64 a, .int .i64 u]) (by simp [results, Try.results27, go_sem, x0, x1, x2, x3, x4]) rfl ⟨by rw [H1.out, H2.out, H3.out, H4.out, H5.out]; exact ⟨none, 0, ao2, cap2, rfl, Mine.nothing _ _, hm5.mono (by omega), fun k e => by cases e⟩, hbl5⟩
    · obtain ⟨rfl, n0, n1, hh⟩ := of_decide_eq_true hok
      obtain ⟨M, rfl⟩ := Int.eq_ofNat_of_zero_le n0
      have H1 : Hid (byB zs 0 u M = true) := by show byB zs 0 u M = true; simp [byB, hv, hok]
      have H2 : Hid (byD zs 0 u M = zs.take M) := by show byD zs 0 u M = zs.take M; simp [byD, hv, hok]
      have H3 : Hid (byZ zs 0 u M = zs.drop M) := by show byZ zs 0 u M = zs.drop M; simp [byZ, hv, hok]
      have H4 : Hid (byA zs 0 u M = 0) := by show byA zs 0 u M = 0; simp [byA, hok]
      have H5 : Hid (byU zs 0 u M = u + 8 * M) := by show byU zs 0 u M = u + 8 * M; simp [byU, hv, hok]
      have HH : Hid (hasB zs.length 0 u (8 * M) = true) := hh
      have hcut : M ≤ zs.length := by omega
      clear hv hok hh
      go_enter Try.func27, Try.ntmps27
      go_wp2_with fail
      refine (valid_any ao zs.length cap 0 u _).mono ?_
      rintro e w1 ⟨rfl, hb1⟩
      have hres1 := (five_new (w.alloc (.cells #[.slice ao zs.length cap, .int .i64 0, .int .i64 u] 26)) (.bool false) (.slice none 0 0) (.slice none 0 0) (.int .i64 0) (.int .i64 0) 45).grown (grownBy_of_below hb1 none) (by simp)
      have harg1 := ((src_new w (.slice ao zs.length cap) 0 u 26).grown (World.grownBy_alloc _ (.cells #[.bool false, .slice none 0 0, .slice none 0 0, .int .i64 0, .int .i64 0] 45) none) (by simp)).grown (grownBy_of_below hb1 none) (by simp)
      simp only [World.size_alloc] at hres1
      obtain ⟨g0, g1, g2, _, _, _⟩ := harg1
      have hz1 : w.heap.size + 1 < w1.heap.size := by have := hb1.size; simp at this; omega
      have hbl1 : Below w.heap.size w w1 := (((Below.refl w.heap.size w).alloc (Nat.le_refl _) _).alloc (by simp) _).trans (hb1.mono (by simp; omega))
      have hr1 := hr.below hbl1
      rw [HV.out]
      clear hb1 hr
      go_wp2_with fail
      refine (openSource_any ao cap zs 0 u w1 hr1 hnil hn).mono ?_
      rintro e w2 ⟨p, ao2, cap2, rfl, hs2, hm2, hp2, hpz2, hpb2, hb2⟩
      have hal : Below w2.heap.size w2 (w2.alloc (.cells #[.pointer (some ⟨p, 0, none⟩)] 76)) := (Below.refl _ _).alloc (Nat.le_refl _) _
      have hz2 := hb2.size
      have hres2 := (hres1.grown (grownBy_of_below hb2 none) (by simp)).grown (grownBy_of_below hal none) (by simp)
      have hbl2 := (hbl1.trans (hb2.mono (by omega))).trans (hal.mono (by omega))
      have hs2' := hs2.grown (grownBy_of_below hal none) (by simp)
      have hm2' := hm2.below hal
      have hlt2 : ∀ k, blk ao2 = some k → k < w2.heap.size := by intro k e; cases ao2 with | none => cases e | some ad => (have := (hm2.lies ad rfl).2.1; simp [blk] at e; omega)
      have hsp2 : ∀ ad, ao2 = some ad → ad.spot = none := fun ad e => (hm2.lies ad e).2.2
      have hrd : (w2.alloc (.cells #[.pointer (some ⟨p, 0, none⟩)] 76)).cell? ⟨w2.heap.size, 0, none⟩ = some (.pointer (some ⟨p, 0, none⟩)) := by simp [go_sem]
      clear g0 g1 g2 hr1 hb2 hres1 hbl1 hs2 hm2 hal
      go_wp2_with fail
      refine (bytes_yes p ao2 cap2 zs u M _ hs2' hm2'.row hm2'.bare hm2'.fits HV.out hcut HH.out).mono ?_
      rintro e w3 ⟨bo, bc, rfl, hd3, hs3, hg3⟩
      have hrd3 : w3.cell? ⟨w2.heap.size, 0, none⟩ = some (.pointer (some ⟨p, 0, none⟩)) := hg3.cell hrd (by simp; omega)
      have hres3 := hres2.grown hg3 (by simp; omega)
      have hm3 := (hm2'.grown hg3 (by intro k e; simp at e; subst e; exact hpb2)).cut M hcut
      have hbl3 := hbl2.grown hg3 (by simp; omega) (by intro k e; simp at e; omega)
      have hz3 : w2.heap.size < w3.heap.size := by have := hg3.size; simp at this; omega
      have hdis : ∀ k, blk bo = some k → blk (cutAt ao2 cap2 M) ≠ some k := by
        intro k e e'
        rw [blk_cut ao2 cap2 M hsp2] at e'
        have := hlt2 k e'
        exact hd3.far (k := k) (by simp; omega) e
      have hlt : (zs.take M).length = M := by rw [List.length_take]; omega
      rw [← List.length_drop] at hs3
      clear hrd hres2 hs2' hm2' hbl2 hg3
      generalize zs.drop M = zd at *
      generalize zs.take M = zt at *
      generalize cutAt ao2 cap2 M = ao3 at *
      generalize cap2 - M = cap3 at *
      have HLT : Hid (zt.length = M) := hlt
      clear hlt
      go_wp2_with fail
      refine (state_any p _ _ _ _ _ _ hs3).mono ?_
      rintro e w4 ⟨rfl, hb4⟩
      have hres4 := hres3.grown (grownBy_of_below hb4 none) (by simp)
      have hm4 := hm3.below hb4
      have hd4 := hd3.below hb4
      have hbl4 := hbl3.trans (hb4.mono (by omega))
      obtain ⟨k1, k2, k3⟩ := five_set hres4 (.bool true) (.slice bo M bc) (.slice ao3 zd.length cap3) (.int .i64 0) (.int .i64 (u + 8 * M))
      have hm5 := hm4.grown k2 (by intro k e; simp at e; subst e; exact hm4.far (by omega))
      have hd5 := hd4.grown k2 (by intro k e; simp at e; subst e; exact hd4.far (by simp; omega))
      have hbl5 := hbl4.grown k2 (by have := hb4.size; omega) (by intro k e; simp at e; omega)
      obtain ⟨⟨r0, r1, r2, r3, r4⟩, q0, q1, q2, q3, q4⟩ := hres4
      obtain ⟨x0, x1, x2, x3, x4⟩ := k1.all
      clear hs3 hrd3 hres3 hm3 hbl3 hb4 hm4 hbl4 k1 k2 k3 hd3 hd4
      unfold five at *
      go_wp2_with fail
      exact bodyPost_ret (v := .agg #[.bool true, .slice bo M bc, .slice ao3 zd.length cap3, .int .i64 0, .int .i64 (u + 8 * M)]) (by simp [results, Try.results27, go_sem, x0, x1, x2, x3, x4]) rfl ⟨by rw [H1.out, H2.out, H3.out, H4.out, H5.out]; exact ⟨bo, bc, ao3, cap3, by rw [HLT.out], hd5.mono (by simp; omega), hm5.mono (by omega), hdis⟩, hbl5⟩
  · have HV : Hid (vld zs.length a u = false) := Bool.eq_false_iff.2 hv
    have H1 : Hid (byB zs a u n = false) := if_neg hv
    have H2 : Hid (byD zs a u n = []) := if_neg hv
    have H3 : Hid (byZ zs a u n = []) := if_neg hv
    have H4 : Hid (byA zs a u n = 0) := if_neg hv
    have H5 : Hid (byU zs a u n = 0) := if_neg hv
    clear hv
    go_enter Try.func27, Try.ntmps27
    go_wp2_with fail
    refine (valid_any ao zs.length cap a u _).mono ?_
    rintro e w1 ⟨rfl, hb1⟩
    have hres1 := (five_new (w.alloc (.cells #[.slice ao zs.length cap, .int .i64 a, .int .i64 u] 26)) (.bool false) (.slice none 0 0) (.slice none 0 0) (.int .i64 0) (.int .i64 0) 45).grown (grownBy_of_below hb1 none) (by simp)
    simp only [World.size_alloc] at hres1
    have hz1 : w.heap.size + 1 < w1.heap.size := by have := hb1.size; simp at this; omega
    have hbl1 : Below w.heap.size w w1 := (((Below.refl w.heap.size w).alloc (Nat.le_refl _) _).alloc (by simp) _).trans (hb1.mono (by simp; omega))
    obtain ⟨k1, k2, k3⟩ := five_set hres1 (.bool false) (.slice none 0 0) (.slice none 0 0) (.int .i64 0) (.int .i64 0)
    have hbl5 := hbl1.grown k2 (by omega) (by intro k e; simp at e; omega)
    obtain ⟨⟨r0, r1, r2, r3, r4⟩, q0, q1, q2, q3, q4⟩ := hres1
    obtain ⟨x0, x1, x2, x3, x4⟩ := k1.all
    rw [HV.out]
    clear hb1 hr k1 k2 k3
    unfold five at *
    go_wp2_with fail
    exact bodyPost_ret (v := .agg #[.bool false, .slice none 0 0, .slice none 0 0, .int .i64 0, .int .i64 0]) (by simp [results, Try.results27, go_sem, x0, x1, x2, x3, x4]) rfl ⟨by rw [H1.out, H2.out, H3.out, H4.out, H5.out]; exact ⟨none, 0, none, 0, rfl, Mine.nothing _ _, Mine.nothing _ _, fun k e => by cases e⟩, hbl5⟩
end Go.Proofs.Ytmfacacpoajpgab
