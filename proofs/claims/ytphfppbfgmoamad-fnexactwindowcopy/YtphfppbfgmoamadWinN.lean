import Derived.Test.YtphfppbfgmoamadRingW
namespace Go.Proofs.Ytphfppbfgmoamad
open Go.RowKit
attribute [local go_sem ↓] Go.wp_at_zero Go.wp_at_succ
set_option linter.unusedVariables false

/-- A window that came back. -/
def ResW (B : Nat) (w : World) (e : Ending) (s : Int) (zs : List Int) : Prop :=
  ∃ ao cap, e = .returned (.agg #[.int .i64 s, .slice ao zs.length cap]) ∧ OwnsB 5 B w ao cap zs
theorem OwnsB.nothing (e B : Nat) (w : World) : OwnsB e B w none 0 [] := World.ownsRow_nil _ _ _ _
theorem ResW.zero (B : Nat) (w : World) : ResW B w (.returned (.agg #[.int .i64 0, .slice none 0 0])) 0 [] := ⟨none, 0, rfl, OwnsB.nothing _ _ _⟩
theorem vsz_out {s : Int} (h : vsz s = true) : ∃ n : Nat, s = n ∧ 0 < n ∧ n ≤ 32768 := by
  have := of_decide_eq_true h
  exact ⟨s.toNat, by omega, by omega, by omega⟩

theorem Row.lt_of {w : World} {ao : Option Addr} {zs : List Int} (h : Row w ao zs) (h0 : 0 < zs.length) : ∀ ad, ao = some ad → ad.block < w.heap.size := by
  intro ad e
  obtain ⟨b, off, e', hc⟩ := h 0 h0
  rw [e] at e'
  simp only [Option.some.injEq] at e'
  subst e'
  exact World.block_lt_of_cell? w _ hc
/-- A slice that may be handed on: its row, its room, its block. -/
structure Arg (w : World) (ao : Option Addr) (cap : Nat) (zs : List Int) : Prop where
  row : Row w ao zs
  fits : zs.length ≤ cap
  most : cap ≤ maxLen
  lies : ∀ ad, ao = some ad → ad.block < w.heap.size
  bare : ao = none → cap = 0
theorem Arg.below {w w' : World} {ao : Option Addr} {cap : Nat} {zs : List Int} (h : Arg w ao cap zs) (hb : Below w.heap.size w w') : Arg w' ao cap zs :=
  { h with row := h.row.below hb, lies := fun ad e => Nat.lt_of_lt_of_le (h.lies ad e) hb.size }
theorem Arg.under {w w' : World} {B : Nat} {ao : Option Addr} {cap : Nat} {zs : List Int} (h : Arg w ao cap zs) (hb : Below B w w') (hB : w.heap.size ≤ B) : Arg w' ao cap zs := h.below (hb.mono hB)
theorem Mine.arg {B : Nat} {w : World} {ao : Option Addr} {cap : Nat} {zs : List Int} (h : Mine B w ao cap zs) : Arg w ao cap zs :=
  ⟨h.row, h.fits, h.most, fun ad e => (h.lies ad e).2.1, h.bare⟩

theorem ownw0 (W : World) (base e g : Nat) (hb : base ≤ W.heap.size) (hg : W.heap.size = g) : (W.alloc (.cells #[] e)).ownsRow base e 1 (.slice (some ⟨g, 0, none⟩) 0 0) 0 [] := by
  subst hg
  exact World.ownsRow_lit W #[] 0 hb (by unfold maxLen; omega) rfl
set_option maxRecDepth 100000 in
set_option maxHeartbeats 3200000 in
theorem l4Last_any (n : Nat) (d : List Int) (ao : Option Addr) (cap : Nat) (w : World) (ha : Arg w ao cap d) (hn0 : 0 < n) (hn : n ≤ 32768) (hd : d.length ≤ 4194304) :
    Calls Try.prog 47 #[.slice ao d.length cap, .int .i64 n] w fun e w' => ∃ ao' cap', e = .returned (.slice ao' (lastN n d).length cap') ∧ OwnsB 5 w.heap.size w' ao' cap' (lastN n d) ∧ Below w.heap.size w w' := by
  obtain ⟨i0, hi, hz0, hz1, hz2⟩ := info_parts Try.info_u8s
  have hb0 : Below w.heap.size w (w.alloc (.cells #[] 5)) := (Below.refl _ _).alloc (Nat.le_refl _) _
  have a1 := ha.below hb0
  by_cases h : d.length ≤ n
  · have e : lastN n d = d := lastN_all h
    rw [e]
    go_enter Try.func47, Try.ntmps47
    go_wp2_with (at_builtin; refine wpList_append_row _ rfl _ _ 22 rfl w.heap.size 5 i0 (.int .u8 0) 1 Try.underlying22 hi hz0 hz1 hz2 rfl (.slice (some ⟨w.heap.size, 0, none⟩) 0 0) 0 [] rfl (ownw0 _ _ _ _ (Nat.le_refl _) rfl) ao cap d rfl a1.row (fun e => ⟨a1.row.none_len e, a1.bare e⟩) (by unfold maxLen; omega) (by omega) (by simp) ?_)
    intro v' w1 hown hgrow hat
    obtain ⟨ao', cap', e', ho⟩ := OwnsB.of hown
    rw [e']
    have hb := hb0.grown hgrow (by simp) (by intro k e; simp [Value.ownBlock] at e; omega)
    clear hown hgrow hat a1 ha e' hb0 e
    go_wp2_with fail
    go_ret
    exact ⟨ao', cap', rfl, ho, hb⟩
  · have hr := a1.row.last (k := d.length - n) (by omega)
    have hl : (lastN n d).length = n := by rw [lastN_len]; omega
    have e : d.drop (d.length - n) = lastN n d := rfl
    rw [e] at hr
    have hcap : cap ≤ maxLen := ha.most
    unfold maxLen at hcap
    have hfit := ha.fits
    have hsub : d.length - (d.length - n) = n := by omega
    have hcn : ¬ cap = d.length - n := by omega
    generalize lastN n d = D at *
    have HR := hide1 hr
    have HBR : Hid (ao = none → cap = 0) := ha.bare
    clear hr e a1 ha
    go_enter Try.func47, Try.ntmps47
    go_wp2_with (at_builtin; refine wpList_append_row _ rfl _ _ 22 rfl w.heap.size 5 i0 (.int .u8 0) 1 Try.underlying22 hi hz0 hz1 hz2 rfl (.slice (some ⟨w.heap.size, 0, none⟩) 0 0) 0 [] rfl (ownw0 _ _ _ _ (Nat.le_refl _) rfl) (ao.map (·.add (d.length - n))) (cap - (d.length - n)) D (by rw [hl]; rfl) HR.out (fun e => ⟨HR.out.none_len e, by cases ao with | none => have := HBR.out rfl; omega | some x => cases e⟩) (by unfold maxLen; omega) (by omega) (by simp) ?_)
    intro v' w1 hown hgrow hat
    obtain ⟨ao', cap', e', ho⟩ := OwnsB.of hown
    rw [e']
    have hb := hb0.grown hgrow (by simp) (by intro k e; simp [Value.ownBlock] at e; omega)
    clear hown hgrow hat e' hb0
    go_wp2_with fail
    go_ret
    exact ⟨ao', cap', rfl, ho, hb⟩

end Go.Proofs.Ytphfppbfgmoamad
