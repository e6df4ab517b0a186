import Derived.Test.YtjknaigdlkpiaaaRingN
import Derived.Test.YtjknaigdlkpiaaaSrc
namespace Go.Proofs.Ytjknaigdlkpiaaa
open Go.RowKit
attribute [local go_sem ↓] Go.wp_at_zero Go.wp_at_succ
set_option linter.unusedVariables false

theorem Row.none_len {w : World} {ao : Option Addr} {zs : List Int} (h : Row w ao zs) (e : ao = none) : zs.length = 0 := by
  rcases Nat.eq_zero_or_pos zs.length with h0 | h0
  · exact h0
  · obtain ⟨b, off, e', _⟩ := h 0 h0
    rw [e] at e'; cases e'
theorem gcellw {W w1 : World} {r : Option Nat} (h : W.grownBy w1 r) : (∀ b o, b < W.heap.size → some b ≠ r → w1.cell? ⟨b, o, none⟩ = W.cell? ⟨b, o, none⟩) ∧ (∀ b o, b < W.heap.size → some b ≠ r → w1.frozen? ⟨b, o, none⟩ = W.frozen? ⟨b, o, none⟩) :=
  ⟨fun b o hb hne => World.cell?_of_block (w := W) (h.block b hb hne), fun b o hb hne => World.frozen?_of_block (w := W) (h.block b hb hne)⟩
theorem OwnsB.block {e B : Nat} {w : World} {ao : Option Addr} {cap n : Nat} {zs : List Int} (h : OwnsB e B w ao cap zs) {b : Nat} (hb : b < B) : some b ≠ (Value.slice ao n cap).ownBlock := by
  intro e'
  cases ao with
  | none => simp [Value.ownBlock] at e'
  | some ad =>
    have := (h.mine.lies ad rfl).1
    simp [Value.ownBlock] at e'
    omega

set_option maxRecDepth 100000 in
set_option maxHeartbeats 6400000 in
theorem window_any (g : Nat) (rs : List Int) (s p c : Nat) (t : List Int) (w : World) (h : RingAt w g rs s p c) (hI : RingIs rs s p c t) (hs : s ≤ 32768) :
    Calls Try.prog 48 #[.pointer (some ⟨g, 0, none⟩)] w fun e w' => ∃ ao cap, e = .returned (.agg #[.int .i64 s, .slice ao t.length cap]) ∧ OwnsB 5 w.heap.size w' ao cap t ∧ Below w.heap.size w w' := by
  obtain ⟨i0, hi, hz0, hz1, hz2⟩ := info_parts Try.info_u8s
  have hlt := h.lt
  have htl : t.length ≤ 32768 := by have := hI.len; have := hI.most; omega
  have hb0 : Below w.heap.size w (w.alloc (.cells #[.int .i64 0, .slice none 0 0] 26)) := (Below.refl _ _).alloc (Nat.le_refl _) _
  have h1 := h.below hb0
  have HP := hide1 (parts_any g rs s p c t _ h1 hI hs)
  have HH := hide1 h1
  have HB := hide1 hb0
  have HW := hide1 (win_new w 0 (.slice none 0 0) 26)
  clear h h1 hI hb0
  go_enter Try.func48, Try.ntmps48
  go_wp2_with fail
  refine Calls.mono HP.out ?_
  rintro e w1 ⟨⟨a1, l1, k1, a2, l2, k2, rfl, r1, r2, hl, n1, n2⟩, q, rfl⟩
  have hll : l1.length + l2.length = t.length := by rw [← hl, List.length_append]
  have HT := hide1 hl
  have R1 := hide1 r1
  have R2 := hide1 r2
  have N1 := hide1 n1
  have N2 : Hid (a2 = none → l2.length = 0 ∧ k2 = 0) := fun e => ⟨r2.none_len e, n2 e⟩
  have HW1 := hide1 (HW.out.below (below_drewN' _ _ q))
  have HH1 := hide1 (HH.out.drewN q)
  have hbq := hide1 (HB.out.trans (below_drewN' _ _ q))
  clear hl r1 r2 n1 n2 HP HH HW HB
  have hq : (w.drewN q).heap.size = w.heap.size := rfl
  generalize hw2 : (w.alloc (.cells #[.int .i64 0, .slice none 0 0] 26)).drewN q = w2 at *
  have hz2' : w2.heap.size = w.heap.size + 1 := by rw [← hw2]; show (w.alloc _).heap.size = _; simp
  clear hw2 hq
  obtain ⟨c0, _, _, _⟩ := HH1.out.three
  obtain ⟨x0, x1, f0, f1⟩ := HW1.out
  have hne : w.heap.size ≠ g := by omega
  go_wp2_with fail
  go_region_held3 (fun w' => w'.cell? ⟨g, 32768, none⟩ = some (.int .i64 s))
    (first | assumption | (go_keep; done) | (simp [*]; done))
    (first | (go_at_call 67; refine (copyBytes_owns a1 k1 l1 _ (R1.out.drewN 1) N1.out (by omega)).mono ?_; rintro e w3 ⟨ao', cap', rfl, ho3', hb3⟩; have ho3 : OwnsB 5 w2.heap.size w3 ao' cap' l1 := ho3'; obtain ⟨_, _, _, _⟩ := (HH1.out.below (((Below.refl _ _).drew).trans hb3)).three; have HW3 := hide1 (HW1.out.below (((Below.refl _ _).drew).trans hb3)))
           | (refine step_append_row _ (by rfl) _ _ _ (by rfl) w2.heap.size 5 i0 (.int .u8 0) 1 Try.underlying22 hi hz0 hz1 hz2 rfl (.slice ao' l1.length cap') l1.length (l1.map (Value.int .u8)) (by rfl) ho3 a2 k2 l2 (by rfl) (R2.out.below (((Below.refl _ _).drew).trans hb3)) N2.out (by unfold maxLen; omega) (by omega) (by have := hb3.size; simpa using this) ?_; intro v' w4 hown hgrow hat; have HW4 := hide1 (HW3.out.grown hgrow (OwnsB.block ho3 (by omega))); obtain ⟨_, _, _, _⟩ := HW4.out; obtain ⟨_, _, _, _⟩ := ((HH1.out.below (((Below.refl _ _).drew).trans hb3)).grown hgrow (OwnsB.block ho3 (by omega))).three; rw [← List.map_append, HT.out, hll] at hown; obtain ⟨ao4, cap4, e', ho4⟩ := OwnsB.of hown; subst e'))
  have hb23 : Below w2.heap.size w2 w3 := ((Below.refl _ _).drew).trans hb3
  have hb4 : Below w2.heap.size w2 w4 := hb23.grown hgrow hb23.size (by intro k e; rcases Nat.lt_or_ge k w2.heap.size with h | h; exact absurd e.symm (OwnsB.block ho3 h); exact h)
  have hw4 : Below w.heap.size w w4 := hbq.out.trans (hb4.mono (by omega))
  obtain ⟨k3, k4⟩ := win_set HW4.out (s : Int) (.slice ao4 t.length cap4)
  have ho5 := ho4.grown k4 (by intro k e; simp at e; subst e; exact ho4.mine.far (by omega))
  have hw5 := hw4.grown k4 hw4.size (by intro k e; simp at e; omega)
  obtain ⟨y0, y1, _, _⟩ := k3
  go_wp2_with fail
  exact bodyPost_ret (v := .agg #[.int .i64 s, .slice ao4 t.length cap4]) (by simp [results, Try.results48, go_sem, y0, y1]) rfl ⟨ao4, cap4, rfl, ho5.mono (by omega), hw5⟩

end Go.Proofs.Ytjknaigdlkpiaaa
