import Derived.Test.YtjknaigdlkpiaaaRingW
namespace Go.Proofs.Ytjknaigdlkpiaaa
open Go.RowKit
attribute [local go_sem ↓] Go.wp_at_zero Go.wp_at_succ
set_option linter.unusedVariables false

/-- A window that came back. -/
def ResW (B : Nat) (w : World) (e : Ending) (s : Int) (zs : List Int) : Prop :=
  ∃ ao cap, e = .returned (.agg #[.int .i64 s, .slice ao zs.length cap]) ∧ OwnsB 5 B w ao cap zs
theorem OwnsB.nothing (e B : Nat) (w : World) : OwnsB e B w none 0 [] := World.ownsRow_nil _ _ _ _
theorem ResW.zero (B : Nat) (w : World) : ResW B w (.returned (.agg #[.int .i64 0, .slice none 0 0])) 0 [] := ⟨none, 0, rfl, OwnsB.nothing _ _ _⟩
theorem vsz_out {s : Int} (h : vsz s = true) : ∃ n : Nat, s = n ∧ 0 < n ∧ n ≤ 32768 := by
  have := of_decide_eq_true h
  exact ⟨s.toNat, by omega, by omega, by omega⟩

theorem Row.lt_of {w : World} {ao : Option Addr} {zs : List Int} (h : Row w ao zs) (h0 : 0 < zs.length) : ∀ ad, ao = some ad → ad.block < w.heap.size := by
  intro ad e
  obtain ⟨b, off, e', hc⟩ := h 0 h0
  rw [e] at e'
  simp only [Option.some.injEq] at e'
  subst e'
  exact World.block_lt_of_cell? w _ hc
/-- A slice that may be handed on: its row, its room, its block. -/
structure Arg (w : World) (ao : Option Addr) (cap : Nat) (zs : List Int) : Prop where
  row : Row w ao zs
  fits : zs.length ≤ cap
  most : cap ≤ maxLen
  lies : ∀ ad, ao = some ad → ad.block < w.heap.size
  bare : ao = none → cap = 0
theorem Arg.below {w w' : World} {ao : Option Addr} {cap : Nat} {zs : List Int} (h : Arg w ao cap zs) (hb : Below w.heap.size w w') : Arg w' ao cap zs :=
  { h with row := h.row.below hb, lies := fun ad e => Nat.lt_of_lt_of_le (h.lies ad e) hb.size }
theorem Arg.under {w w' : World} {B : Nat} {ao : Option Addr} {cap : Nat} {zs : List Int} (h : Arg w ao cap zs) (hb : Below B w w') (hB : w.heap.size ≤ B) : Arg w' ao cap zs := h.below (hb.mono hB)
theorem Mine.arg {B : Nat} {w : World} {ao : Option Addr} {cap : Nat} {zs : List Int} (h : Mine B w ao cap zs) : Arg w ao cap zs :=
  ⟨h.row, h.fits, h.most, fun ad e => (h.lies ad e).2.1, h.bare⟩

set_option maxRecDepth 100000 in
set_option maxHeartbeats 3200000 in
theorem inew_any (s : Int) (d : List Int) (ao : Option Addr) (cap : Nat) (w : World) (ha : Arg w ao cap d) :
    Calls Try.prog 25 #[.int .i64 s, .slice ao d.length cap] w fun e w' => ResW w.heap.size w' e (if vsz s then s else 0) (if vsz s then lastN s.toNat d else []) ∧ Below w.heap.size w w' := by
  have hb0 : Below w.heap.size w (w.alloc (.cells #[.int .i64 0, .slice none 0 0] 26)) := (Below.refl _ _).alloc (Nat.le_refl _) _
  have hW := win_new w 0 (.slice none 0 0) 26
  have HV : Hid _ := validSize_any s
  by_cases hv : vsz s = true
  · obtain ⟨n, rfl, hn0, hn⟩ := vsz_out hv
    simp only [hv, if_true, Int.toNat_natCast]
    have a0 := ha.below hb0
    have HN := hide1 (newRing_any n d ao cap _ hn0 hn a0.row a0.fits a0.most a0.lies)
    have HW := hide1 hW
    have HB := hide1 hb0
    clear ha a0 hW hb0
    go_enter Try.func25, Try.ntmps25
    go_wp2_with fail
    refine Calls.mono (HV.out _) ?_
    rintro e w1 ⟨rfl, rfl⟩
    rw [hv]
    go_wp2_with fail
    refine Calls.mono HN.out ?_
    rintro e w2 ⟨g, rfl, hg1, hg2, ⟨rs, p, c, hr2, hi2⟩, hb2⟩
    simp only [World.size_alloc] at hg1
    have HW2 := hide1 (HW.out.below (hb2.mono (by simpa using hg1)))
    have HB2 := hide1 (HB.out.trans (hb2.mono (by omega)))
    have HWN := hide1 (window_any g rs n p c _ w2 hr2 hi2 hn)
    clear HN hr2 hi2 hb2 HV
    go_wp2_with fail
    refine Calls.mono HWN.out ?_
    rintro e w3 ⟨ao3, cap3, rfl, ho3, hb3⟩
    obtain ⟨k3, k4⟩ := win_set (HW2.out.below hb3) (n : Int) (.slice ao3 (lastN n d).length cap3)
    obtain ⟨x0, x1, f0, f1⟩ := HW2.out.below hb3
    have ho5 := ho3.grown k4 (by intro k e; simp at e; subst e; exact ho3.mine.far (by have := HW2.out.lt; omega))
    have hw5 := (HB2.out.trans (hb3.mono (by have := HB2.out.size; omega))).grown k4 (HB2.out.trans (hb3.mono (by have := HB2.out.size; omega))).size (by intro k e; simp at e; omega)
    obtain ⟨y0, y1, _, _⟩ := k3
    clear HWN hb3 ho3
    go_wp2_with fail
    exact bodyPost_ret (v := .agg #[.int .i64 n, .slice ao3 (lastN n d).length cap3]) (by simp [results, Try.results25, go_sem, y0, y1]) rfl ⟨⟨ao3, cap3, rfl, ho5.mono (by have := HB2.out.size; omega)⟩, hw5⟩
  · have hv : vsz s = false := by simpa using hv
    simp only [hv]
    clear ha
    obtain ⟨x0, x1, f0, f1⟩ := hW
    go_enter Try.func25, Try.ntmps25
    go_wp2_with fail
    refine Calls.mono (HV.out _) ?_
    rintro e w1 ⟨rfl, rfl⟩
    rw [hv]
    go_wp2_with fail
    exact bodyPost_ret (v := .agg #[.int .i64 0, .slice none 0 0]) (by simp [results, Try.results25, go_sem]) rfl ⟨ResW.zero _ _, hb0⟩

theorem ownw0 (W : World) (base e g : Nat) (hb : base ≤ W.heap.size) (hg : W.heap.size = g) : (W.alloc (.cells #[] e)).ownsRow base e 1 (.slice (some ⟨g, 0, none⟩) 0 0) 0 [] := by
  subst hg
  exact World.ownsRow_lit W #[] 0 hb (by unfold maxLen; omega) rfl
set_option maxRecDepth 100000 in
set_option maxHeartbeats 3200000 in
theorem l4Last_any (n : Nat) (d : List Int) (ao : Option Addr) (cap : Nat) (w : World) (ha : Arg w ao cap d) (hn0 : 0 < n) (hn : n ≤ 32768) (hd : d.length ≤ 4194304) :
    Calls Try.prog 45 #[.slice ao d.length cap, .int .i64 n] w fun e w' => ∃ ao' cap', e = .returned (.slice ao' (lastN n d).length cap') ∧ OwnsB 5 w.heap.size w' ao' cap' (lastN n d) ∧ Below w.heap.size w w' := by
  obtain ⟨i0, hi, hz0, hz1, hz2⟩ := info_parts Try.info_u8s
  have hb0 : Below w.heap.size w (w.alloc (.cells #[] 5)) := (Below.refl _ _).alloc (Nat.le_refl _) _
  have a1 := ha.below hb0
  by_cases h : d.length ≤ n
  · have e : lastN n d = d := lastN_all h
    rw [e]
    go_enter Try.func45, Try.ntmps45
    go_wp2_with (at_builtin; refine wpList_append_row _ rfl _ _ 22 rfl w.heap.size 5 i0 (.int .u8 0) 1 Try.underlying22 hi hz0 hz1 hz2 rfl (.slice (some ⟨w.heap.size, 0, none⟩) 0 0) 0 [] rfl (ownw0 _ _ _ _ (Nat.le_refl _) rfl) ao cap d rfl a1.row (fun e => ⟨a1.row.none_len e, a1.bare e⟩) (by unfold maxLen; omega) (by omega) (by simp) ?_)
    intro v' w1 hown hgrow hat
    obtain ⟨ao', cap', e', ho⟩ := OwnsB.of hown
    rw [e']
    have hb := hb0.grown hgrow (by simp) (by intro k e; simp [Value.ownBlock] at e; omega)
    clear hown hgrow hat a1 ha e' hb0 e
    go_wp2_with fail
    go_ret
    exact ⟨ao', cap', rfl, ho, hb⟩
  · have hr := a1.row.last (k := d.length - n) (by omega)
    have hl : (lastN n d).length = n := by rw [lastN_len]; omega
    have e : d.drop (d.length - n) = lastN n d := rfl
    rw [e] at hr
    have hcap : cap ≤ maxLen := ha.most
    unfold maxLen at hcap
    have hfit := ha.fits
    have hsub : d.length - (d.length - n) = n := by omega
    have hcn : ¬ cap = d.length - n := by omega
    generalize lastN n d = D at *
    have HR := hide1 hr
    have HBR : Hid (ao = none → cap = 0) := ha.bare
    clear hr e a1 ha
    go_enter Try.func45, Try.ntmps45
    go_wp2_with (at_builtin; refine wpList_append_row _ rfl _ _ 22 rfl w.heap.size 5 i0 (.int .u8 0) 1 Try.underlying22 hi hz0 hz1 hz2 rfl (.slice (some ⟨w.heap.size, 0, none⟩) 0 0) 0 [] rfl (ownw0 _ _ _ _ (Nat.le_refl _) rfl) (ao.map (·.add (d.length - n))) (cap - (d.length - n)) D (by rw [hl]; rfl) HR.out (fun e => ⟨HR.out.none_len e, by cases ao with | none => have := HBR.out rfl; omega | some x => cases e⟩) (by unfold maxLen; omega) (by omega) (by simp) ?_)
    intro v' w1 hown hgrow hat
    obtain ⟨ao', cap', e', ho⟩ := OwnsB.of hown
    rw [e']
    have hb := hb0.grown hgrow (by simp) (by intro k e; simp [Value.ownBlock] at e; omega)
    clear hown hgrow hat e' hb0
    go_wp2_with fail
    go_ret
    exact ⟨ao', cap', rfl, ho, hb⟩

end Go.Proofs.Ytjknaigdlkpiaaa
