import Derived.Test.YtpbchecindmfeaaFixM
namespace Go.Proofs.Ytpbchecindmfeaa
open Go.RowKit
attribute [local go_sem ↓] Go.wp_at_zero Go.wp_at_succ
set_option linter.unusedVariables false

/-- Bits as bytes. -/
def ib (L : List Nat) : List Int := L.map (fun b : Nat => (b : Int))
theorem ib_len (L : List Nat) : (ib L).length = L.length := by simp [ib]
theorem ib_app (L M : List Nat) : ib (L ++ M) = ib L ++ ib M := by simp [ib]
theorem ib_at (L : List Nat) (i : Nat) : (ib L).getD i 0 = ((L.getD i 0 : Nat) : Int) := by
  simp only [ib, List.getD, List.getElem?_map]
  cases L[i]? <;> rfl
set_option maxRecDepth 100000 in
set_option maxHeartbeats 6400000 in
theorem l5Put_any (B : Nat) (ao : Option Addr) (cap X n : Nat) (L : List Nat) (w : World) (ho : OwnsB 5 B w ao cap (ib L)) (hB : B ≤ w.heap.size) (hn : n ≤ 64) (hX : X < 2 ^ 64) (hl : L.length ≤ 2000000) :
    Calls Try.prog 16 #[.slice ao (ib L).length cap, .int .u64 X, .int .i64 n] w fun e w' => ∃ ao' cap', e = .returned (.slice ao' (ib (L ++ bitsOf X n)).length cap') ∧ OwnsB 5 B w' ao' cap' (ib (L ++ bitsOf X n)) ∧ Below B w w' := by
  obtain ⟨i0, hi, hz0, hz1, hz2⟩ := info_parts Try.info_u8
  have HO := hideH ho
  clear ho
  go_enter Try.func16, Try.ntmps16
  go_wp2_with fail
  go_loopw [0, 1, 7] (fun v x i wr => ∃ (k x' : Nat) (ao' : Option Addr) (cap' : Nat) (Z : List Int), k ≤ n ∧ i = .int .i64 k ∧ x = .int .u64 x' ∧ Hid (X / 2 ^ k = x') ∧ x' < 2 ^ 64 ∧ v = .slice ao' Z.length cap' ∧ Z.length ≤ 2000100 ∧ Hid (Z = ib (L ++ bitsOf X k)) ∧ Hid (OwnsB 5 B wr ao' cap' Z) ∧ Hid (Below B w wr)) (fun _ _ i _ => n - (intOf i).toNat)
  case atStart => exact ⟨0, X, ao, cap, ib L, Nat.zero_le _, rfl, rfl, Nat.div_one X, hX, rfl, by rw [ib_len]; omega, by show _ = _; rw [bitsOf_zero, List.append_nil], HO, Below.refl _ _⟩
  case round =>
    clear HO
    obtain ⟨k, x', ao', cap', Z, hk, rfl, rfl, HX, hx', rfl, hZl, HZ, HO, HB⟩ := hrel
    by_cases hlt : k < n
    · obtain ⟨b, hb⟩ : ∃ b, x' % 2 = b := ⟨_, rfl⟩
      have hbi : (x' : Int) % 2 = (b : Int) := by omega
      have hbt : (x' : Int).tmod 2 = (b : Int) := by rw [Int.tmod_eq_emod_of_nonneg (by omega)]; exact hbi
      have hb256 : (b : Int) % 256 = (b : Int) := by omega
      obtain ⟨y, hy⟩ : ∃ y, x' / 2 = y := ⟨_, rfl⟩
      have hyi : (x' : Int) / 2 = (y : Int) := by omega
      have hyt : (x' : Int).tdiv 2 = (y : Int) := by rw [Int.tdiv_eq_ediv_of_nonneg (by omega)]; exact hyi
      have hyw : IntKind.u64.wrap (y : Int) = (y : Int) := by rw [IntKind.wrap_u64]; omega
      have HX2 : Hid (X / 2 ^ (k + 1) = y) := by show _ = _; rw [Nat.pow_succ, ← Nat.div_div_eq_div_mul, HX.out]; exact hy
      have HZ2 : Hid (Z ++ [(b : Int)] = ib (L ++ bitsOf X (k + 1))) := by
        show _ = _
        rw [HZ.out, bitsOf_succ, HX.out, hb, ← List.append_assoc, ib_app (L ++ bitsOf X k)]
        rfl
      have hy64 : y < 2 ^ 64 := by omega
      have HOA := hideH (fun A t => HO.out.below ((Below.refl _ _).alloc (Nat.le_refl _) (.cells A t)))
      have hBw : B ≤ wr.heap.size := Nat.le_trans hB HB.out.size
      have HBA := hideH (fun A t => HB.out.trans (((Below.refl _ _).alloc (Nat.le_refl _) (.cells A t)).mono hBw))
      have HZL : Hid (Z.length = L.length + k) := by show _ = _; rw [HZ.out, ib_len, List.length_append, bitsOf_len]
      clear hb hy
      go_wp2_with (at_builtin; refine wpList_append_row _ rfl _ _ 22 rfl B 5 i0 (.int .u8 0) 1 Try.underlying22 hi hz0 hz1 hz2 rfl (.slice ao' Z.length cap') Z.length (Z.map (Value.int .u8)) rfl (HOA.out _ _) (some ⟨wr.heap.size, 0, none⟩) 1 [(b : Int)] rfl (row_oneB wr b 5) (fun e => by cases e) (by unfold maxLen; simp; omega) (by simp; omega) (by simp; omega) ?_)
      intro v' w2 hown hgrow hat
      have hown2 : w2.ownsRow B 5 1 v' (Z.length + 1) ((Z ++ [(b : Int)]).map (Value.int .u8)) := by
        rw [List.map_append]
        exact hown
      obtain ⟨ao2, cap2, rfl, ho2⟩ := OwnsB.of hown2
      rw [blk_own] at hgrow
      have HB2 := hideH ((HBA.out _ _).grown hgrow (by simp; omega) (fun q e => HO.out.base q e))
      have HO2 := hideH ho2
      have hl2 : (Z ++ [(b : Int)]).length ≤ 2000100 := by rw [List.length_append, HZL.out]; simp; omega
      generalize Z ++ [(b : Int)] = Z2 at *
      clear hown hown2 hgrow hat ho2 HOA HBA
      go_wp2_with fail
      exact ⟨⟨k + 1, y, ao2, cap2, Z2, by omega, by go_num, rfl, HX2, hy64, rfl, hl2, HZ2, HO2, HB2⟩, by simp [intOf]; omega⟩
    · have e : k = n := by omega
      subst e
      have hZe := HZ.out
      subst hZe
      go_wp2_with fail
      go_ret
      exact ⟨ao', cap', rfl, HO.out, HB.out⟩
end Go.Proofs.Ytpbchecindmfeaa
