import Derived.Test.YtmfacacpoajpgacHTR
import Derived.Test.YtmfacacpoajpgacHTI
namespace Go.Proofs.Ytmfacacpoajpgac
open Go.RowKit
attribute [local go_sem ↓] Go.wp_at_zero Go.wp_at_succ
set_option linter.unusedVariables false

theorem Upd.refl (w : World) (p : Nat) : Upd w w p := ⟨rfl, rfl, rfl, Nat.le_refl _, fun _ _ _ _ => rfl⟩
theorem put_any (zs : List Int) (k p m : Nat) (S : Nat → Nat × Nat) (L : Nat → Nat → Nat × Nat) (w : World) (hT : Tab w p S m L) (hI : TI zs k S m L) (hc : Coded zs k) (hk : SS zs 15 ≤ 32768) (hn : zs.length ≤ 320) :
    Calls Try.prog 60 #[.pointer (some ⟨p, 0, none⟩), .int .i16 k, .agg #[.int .i64 (ln zs k : Nat), .int .u64 (tr (num zs k) (ln zs k) : Nat)]] w fun e w' => e = .returned (.tuple #[]) ∧ (∃ S' m' L', Tab w' p S' m' L' ∧ TI zs (k + 1) S' m' L') ∧ ∀ B, B ≤ p → Below B w w' := by
  have hkl := hc.lt
  have hYl := num_lt hc hk
  have hpos := hc.pos
  have hmost := hc.most
  obtain ⟨X, hX⟩ : ∃ X, ln zs k = X := ⟨_, rfl⟩
  obtain ⟨Y, hY⟩ : ∃ Y, tr (num zs k) (ln zs k) = Y := ⟨_, rfl⟩
  have hYX : Y < 2 ^ X := by rw [← hY, ← hX]; exact tr_lt _ _
  have hIm := hI.most
  rw [hY]
  by_cases h9 : X ≤ 9
  · rw [hX]
    refine Calls.mono (put_short p m k X Y (2 ^ X) S L w hT (by omega) (by omega) h9 rfl hYX) ?_
    rintro e w' ⟨rfl, hT', hU⟩
    exact ⟨rfl, ⟨_, _, _, hT', hI.short hk hc (by omega) hX hY h9⟩, fun B hB => Upd.beneath hT hU hB⟩
  · have hP15 : 2 ^ X ≤ 2 ^ 15 := Nat.pow_le_pow_right (by decide) (by omega)
    have eP : 2 ^ X = 512 * 2 ^ (X - 9) := by
      rw [show X = 9 + (X - 9) from by omega, Nat.pow_add, show 9 + (X - 9) - 9 = X - 9 from by omega]
    have hY2 : Y / 512 < 2 ^ (X - 9) := by rw [eP] at hYX; omega
    rw [hX]
    by_cases h16 : (S (Y % 512)).1 = 16
    · refine Calls.mono (put_long p m k X Y (2 ^ (X - 9)) (Y % 512) (Y / 512) (S (Y % 512)).2 m S S L L w hT (by omega) (by omega) (by omega) rfl (by omega) rfl rfl hY2 (hI.l2 _ h16) (by omega) ?_) ?_
      · intro W hW
        refine Calls.mono (link_has p m (Y % 512) S L W hW (by omega) h16 (by have := hI.l3 (Y % 512); omega)) ?_
        rintro e w' ⟨rfl, rfl⟩
        exact ⟨rfl, hW, Upd.refl _ _⟩
      · rintro e w' ⟨rfl, hT', hB⟩
        exact ⟨rfl, ⟨_, _, _, hT', hI.long_has hk hc (by omega) hX hY hYX (by omega) h16⟩, hB⟩
    · refine Calls.mono (put_long p m k X Y (2 ^ (X - 9)) (Y % 512) (Y / 512) m (m + 1) S (fun i => if i = Y % 512 then (16, m) else S i) L (fun j => if j = m then fun _ => (0, 0) else L j) w hT (by omega) (by omega) (by omega) rfl (by omega) rfl rfl hY2 (by omega) (by omega) ?_) ?_
      · intro W hW
        exact link_new p m (Y % 512) S L W hW (by omega) (by omega) h16 (hI.l1 _) (by have := hI.l3 (Y % 512); omega)
      · rintro e w' ⟨rfl, hT', hB⟩
        have e1 : (fun j => if j = m then fun i => if i % 2 ^ (X - 9) = Y / 512 then (X, k) else (if m = m then fun _ => (0, 0) else L m) i else (if j = m then fun _ => (0, 0) else L j)) = (fun j => if j = m then fun i => if i % 2 ^ (X - 9) = Y / 512 then (X, k) else (0, 0) else L j) := by
          funext j
          by_cases h : j = m
          · rw [if_pos h, if_pos h, if_pos rfl]
          · rw [if_neg h, if_neg h, if_neg h]
        exact ⟨rfl, ⟨_, _, _, hT', by rw [e1]; exact hI.long_new hk hc (by omega) hX hY hYX (by omega) h16⟩, hB⟩

theorem zeroTab_eq : Try.zeroCells97.toList = zz 512 ++ [.slice none 0 0] := by kernel_rfl
theorem Tab.new (w : World) (t : TypeId) : Tab (w.alloc (.cells Try.zeroCells97 t)) w.heap.size (fun _ => (0, 0)) 0 (fun _ _ => (0, 0)) := by
  have hl := zz_len 512
  have hat : ∀ j u, (zz 512 ++ [.slice none 0 0])[j]? = some u → (w.alloc (.cells Try.zeroCells97 t)).cell? ⟨w.heap.size, j, none⟩ = some u := fun j u h => by
    have h2 := alloc_at w Try.zeroCells97 t j u (by rw [zeroTab_eq]; exact h)
    rw [Addr.add_lit, Nat.zero_add] at h2
    exact h2
  refine ⟨⟨by simp, fun i hi => ?_, fun i hi => ?_, fun o => by simp [go_sem]⟩, none, 0, [], ?_, World.ownsRow_nil _ _ _ _, fun j hj => by omega⟩
  · refine hat _ _ ?_
    rw [Nat.zero_add, List.getElem?_append_left (by omega)]
    exact (zz_at 512 i hi).1
  · refine hat _ _ ?_
    rw [Nat.zero_add, List.getElem?_append_left (by omega)]
    exact (zz_at 512 i hi).2
  · refine hat _ _ ?_
    rw [List.getElem?_append_right (by omega), hl]
    rfl
set_option maxRecDepth 100000 in
set_option maxHeartbeats 6400000 in
theorem newTab_any (zs : List Int) (ao : Option Addr) (cap n : Nat) (w : World) (hR : Reads w ao n (code zs)) (hn : n = zs.length) (hn3 : zs.length ≤ 320) (ho : okL zs) (hk : SS zs 15 ≤ 32768) :
    Calls Try.prog 46 #[.slice ao n cap] w fun e w' => ∃ p S m L, e = .returned (.pointer (some ⟨p, 0, none⟩)) ∧ w.heap.size ≤ p ∧ Tab w' p S m L ∧ TI zs n S m L ∧ Below w.heap.size w w' := by
  have HT0 := hideH (Tab.new w 97)
  have HB0 : Hid (Below w.heap.size w (w.alloc (.cells Try.zeroCells97 97))) := (Below.refl _ _).alloc (Nat.le_refl _) _
  have HN := hideH hn
  have HR := hideH hR
  have HK := hideH hk
  have HOK := hideH ho
  have hn4 : n ≤ 320 := by omega
  clear hn hR hk ho
  go_enter Try.func46, Try.ntmps46
  go_wp2_with fail
  go_loopw [10] (fun i wr => ∃ k : Nat, k ≤ n ∧ i = .int .i64 k ∧ Hid (∃ S m L, Tab wr w.heap.size S m L ∧ TI zs k S m L) ∧ Hid (Below w.heap.size w wr)) (fun i _ => n - (intOf i).toNat)
  case atStart => exact ⟨0, Nat.zero_le _, rfl, ⟨_, _, _, HT0.out, TI.zero zs⟩, HB0⟩
  case round =>
    clear HT0 HB0
    obtain ⟨k, hkn, rfl, HX, HB⟩ := hrel
    by_cases hlt : k < n
    · obtain ⟨g, rfl, hC⟩ := HR.out (by omega)
      obtain ⟨S, m, L, hT, hI⟩ := HX.out
      have hgw : g < w.heap.size := World.block_lt_of_cell? w _ (hC.at0 k hlt)
      have c0 := (HB.out.cell (p := ⟨g, k * 2, none⟩) hgw).trans (hC.at0 k hlt)
      have c1 := (HB.out.cell (p := ⟨g, k * 2 + 1, none⟩) hgw).trans (hC.at1 k hlt)
      have hkw := wrap_i16 k (by omega)
      by_cases h0 : ln zs k = 0
      · have hc0 : code zs k = (0, 0) := by rw [code_ln, if_pos h0]
        rw [hc0] at c0 c1
        have HB2 : Hid (∀ A t, Below w.heap.size w (wr.alloc (.cells A t))) := fun A t => HB.out.trans (((Below.refl _ _).alloc (Nat.le_refl _) _).mono HB.out.size)
        have HX2 : Hid (∀ A t, ∃ S m L, Tab (wr.alloc (.cells A t)) w.heap.size S m L ∧ TI zs (k + 1) S m L) := fun A t => ⟨S, m, L, hT.below ((Below.refl _ _).alloc (Nat.le_refl _) _), hI.skip h0⟩
        clear hT hI hC HX h0 hc0
        go_wp2_with fail
        exact ⟨⟨k + 1, by omega, by go_num, HX2.out _ _, HB2.out _ _⟩, by simp [intOf]; omega⟩
      · have hc : Coded zs k := Coded.of HOK.out (by have := HN.out; omega) h0
        have hcc : code zs k = (ln zs k, tr (num zs k) (ln zs k)) := by rw [code_ln, if_neg h0]
        rw [hcc] at c0 c1
        have HP := hideH (fun A t => put_any zs k w.heap.size m S L (wr.alloc (.cells A t)) (hT.below ((Below.refl _ _).alloc (Nat.le_refl _) _)) hI hc HK.out hn3)
        have hX0 : (0 : Int) < (ln zs k : Int) := by have := hc.pos; omega
        dsimp only at c0 c1
        have HB2 : Hid (∀ A t, Below w.heap.size w (wr.alloc (.cells A t))) := fun A t => HB.out.trans (((Below.refl _ _).alloc (Nat.le_refl _) _).mono HB.out.size)
        generalize ln zs k = X at *
        generalize tr (num zs k) X = Y at *
        clear hT hI hC HX h0 hcc hc
        go_wp2_with fail
        refine Calls.mono (HP.out _ _) ?_
        rintro e w' ⟨rfl, hX, hB⟩
        have HB3 := hideH ((HB2.out _ _).trans (hB w.heap.size (Nat.le_refl _)))
        have HX3 := hideH hX
        clear hX hB
        go_wp2_with fail
        exact ⟨⟨k + 1, by omega, by go_num, HX3, HB3⟩, by simp [intOf]; omega⟩
    · have e : k = n := by omega
      subst e
      obtain ⟨S, m, L, hT, hI⟩ := HX.out
      have HT := hideH hT
      have HI := hideH hI
      clear hT hI
      go_wp2_with fail
      go_ret
      exact ⟨w.heap.size, S, m, L, rfl, Nat.le_refl _, HT.out, HI.out, HB.out⟩
end Go.Proofs.Ytmfacacpoajpgac
