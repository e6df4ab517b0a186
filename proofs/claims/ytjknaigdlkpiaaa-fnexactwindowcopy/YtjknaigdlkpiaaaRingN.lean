import Derived.Test.YtjknaigdlkpiaaaRingS
import Derived.Laws.Tables
namespace Go.Proofs.Ytjknaigdlkpiaaa
open Go.RowKit
attribute [local go_sem ↓] Go.wp_at_zero Go.wp_at_succ
set_option linter.unusedVariables false

set_option maxRecDepth 10000000 in
theorem Try.zero_ring : Try.zeroCells94 = ((List.replicate 32768 (Value.int .u8 0)) ++ [Value.int .i64 0, Value.int .i64 0, Value.int .i64 0]).toArray := by kernel_rfl
theorem app3_set0 (L : List Value) (a b c d : Value) (n : Nat) (h : L.length = n) : (L ++ [a, b, c]).set n d = L ++ [d, b, c] := by subst h; rw [List.set_append_right _ _ (by omega)]; simp
theorem ring_built (s : Int) : Try.zeroCells94.setIfInBounds 32768 (.int .i64 s) = ((List.replicate 32768 (0 : Int)).map (Value.int .u8) ++ [Value.int .i64 s, Value.int .i64 0, Value.int .i64 0]).toArray := by
  rw [Try.zero_ring]
  have hL : (List.replicate 32768 (Value.int .u8 0)).length = 32768 := List.length_replicate
  rw [List.map_replicate]
  generalize List.replicate 32768 (Value.int .u8 0) = L at *
  have e := app3_set0 L (.int .i64 0) (.int .i64 0) (.int .i64 0) (.int .i64 s) 32768 hL
  rw [List.setIfInBounds_toArray, e]
theorem alloc_heap (w : World) (o : Obj) : (w.alloc o).heap[w.heap.size]? = some o := by
  show (w.heap.push o)[w.heap.size]? = some o
  simp

set_option maxRecDepth 100000 in
set_option maxHeartbeats 3200000 in
theorem newRing_any (s : Nat) (d : List Int) (ao : Option Addr) (cap : Nat) (w : World) (hs0 : 0 < s) (hs : s ≤ 32768) (hr : Row w ao d) (hf : d.length ≤ cap) (hcap : cap ≤ maxLen) (hb : ∀ ad, ao = some ad → ad.block < w.heap.size) :
    Calls Try.prog 46 #[.int .i64 s, .slice ao d.length cap] w fun e w' => ∃ g, e = .returned (.pointer (some ⟨g, 0, none⟩)) ∧ w.heap.size ≤ g ∧ g < w'.heap.size ∧ (∃ rs' p' c', RingAt w' g rs' s (p' : Nat) (c' : Nat) ∧ RingIs rs' s p' c' (lastN s d)) ∧ Below g w w' := by
  have hz := ring_built s
  have hL : (List.replicate 32768 (0 : Int)).length = 32768 := List.length_replicate
  generalize List.replicate 32768 (0 : Int) = L at *
  have h0 : RingAt (w.alloc (.cells (L.map (Value.int .u8) ++ [Value.int .i64 s, Value.int .i64 0, Value.int .i64 0]).toArray 94)) w.heap.size L s (0 : Nat) (0 : Nat) := ⟨alloc_heap _ _, hL⟩
  have hb0 : Below w.heap.size w (w.alloc (.cells (L.map (Value.int .u8) ++ [Value.int .i64 s, Value.int .i64 0, Value.int .i64 0]).toArray 94)) := (Below.refl _ _).alloc (Nat.le_refl _) _
  have HP := hide1 (rput_any w.heap.size L s 0 0 [] d ao cap _ h0 (RingIs.new L s hs0 (by omega)) hs (hr.below hb0) hf hcap hb)
  generalize hZ : L.map (Value.int .u8) ++ [Value.int .i64 s, Value.int .i64 0, Value.int .i64 0] = Z at *
  have HZ := hide1 hZ
  have HZ2 := hide1 hz
  have HH0 := hide1 h0
  clear hZ hr h0 hL hz
  go_enter Try.func46, Try.ntmps46
  go_wp2_with fail
  rw [HZ2.out]
  refine Calls.mono HP.out ?_
  rintro e w1 ⟨rfl, ⟨rs', p', c', hr1, hi1⟩, hb1⟩
  go_wp2_with fail
  go_ret
  exact ⟨w.heap.size, rfl, Nat.le_refl _, hr1.lt, ⟨rs', p', c', hr1, hi1⟩, hb0.trans hb1⟩

set_option maxRecDepth 100000 in
set_option maxHeartbeats 3200000 in
theorem parts_any (g : Nat) (rs : List Int) (s p c : Nat) (t : List Int) (w : World) (h : RingAt w g rs s p c) (hI : RingIs rs s p c t) (hs : s ≤ 32768) :
    Calls Try.prog 66 #[.pointer (some ⟨g, 0, none⟩)] w fun e w' => (∃ a1 l1 c1 a2 l2 c2, e = .returned (.tuple #[.slice a1 (List.length l1) c1, .slice a2 (List.length l2) c2]) ∧ Row w' a1 l1 ∧ Row w' a2 l2 ∧ l1 ++ l2 = t ∧ (a1 = none → c1 = 0) ∧ (a2 = none → c2 = 0)) ∧ ∃ q, w' = w.drewN q := by
  obtain ⟨c0, c1, c2, fz⟩ := h.three
  have hp := hI.place
  have hs0 := hI.pos
  have HI := hide1 hI
  have HH := hide1 h
  clear fz h hI
  by_cases hc : c < s
  · have hd : decide ((c : Int) < (s : Int)) = true := decide_eq_true (by omega)
    have hp1 := fun W => run_room_p g p (by omega) W
    go_enter Try.func66, Try.ntmps66
    go_wp2_with fail
    go_quiet (fail)
    go_wp2_with fail
    go_quiet (fail)
    go_wp2_with fail
    have hr : Row w (some ⟨g, 0, none⟩) t := by
      rw [← HI.out.tell_young hc]
      refine Row.of fun i hi => ?_
      have hi' : i < p := by simp at hi; omega
      have hl := HH.out.len
      rw [Nat.zero_add, HH.out.byte (by omega)]
      simp [List.getD, hi']
    have hl : p = t.length := by rw [← HI.out.tell_young hc]; have := HH.out.len; simp; omega
    exact bodyPost_ret (v := .tuple #[.slice none 0 0, .slice (some ⟨g, 0, none⟩) p 32768]) (by simp [results, Try.results66, go_sem]) rfl ⟨⟨none, [], 0, _, t, 32768, by rw [← hl]; rfl, Row.nil _ _, hr, rfl, fun _ => rfl, fun e => by cases e⟩, _, World.drewN_drewN _ _ _⟩
  · have hd : decide ((c : Int) < (s : Int)) = false := decide_eq_false (by omega)
    have hp1 := fun W => run_room_p g p (by omega) W
    have hp2 := fun W => run_room_ps g p s hp hs W
    go_enter Try.func66, Try.ntmps66
    go_wp2_with fail
    go_quiet (fail)
    go_wp2_with fail
    go_quiet (fail)
    go_wp2_with fail
    have hl := HH.out.len
    have hr1 : Row w (some ⟨g, p, none⟩) ((rs.drop p).take (s - p)) := by
      refine Row.of fun i hi => ?_
      have hi' : i < s - p := by simp at hi; omega
      rw [HH.out.byte (by omega)]
      simp [List.getD, hi']
    have hr2 : Row w (some ⟨g, 0, none⟩) (rs.take p) := by
      refine Row.of fun i hi => ?_
      have hi' : i < p := by simp at hi; omega
      rw [Nat.zero_add, HH.out.byte (by omega)]
      simp [List.getD, hi']
    have l1 : ((rs.drop p).take (s - p)).length = s - p := by simp; omega
    have l2 : (rs.take p).length = p := by simp; omega
    exact bodyPost_ret (v := .tuple #[.slice (some ⟨g, p, none⟩) (s - p) (32768 - p), .slice (some ⟨g, 0, none⟩) p 32768]) (by simp [results, Try.results66, go_sem]) rfl ⟨⟨_, (rs.drop p).take (s - p), _, _, rs.take p, _, by rw [l1, l2], hr1, hr2, HI.out.tell_full hc, (fun e => by cases e), (fun e => by cases e)⟩, _, World.drewN_drewN _ _ _⟩
end Go.Proofs.Ytjknaigdlkpiaaa
