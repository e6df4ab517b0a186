import Derived.Test.YtmfacacpoajpgacHKS
namespace Go.Proofs.Ytmfacacpoajpgac
open Go.RowKit
attribute [local go_sem ↓] Go.wp_at_zero Go.wp_at_succ
set_option linter.unusedVariables false

/-- Sixteen counts as cells. -/
def cells16 (f : Nat → Nat) : List Value := (List.range 16).map (fun i => Value.int .i64 (f i : Nat))
theorem cells16_len (f : Nat → Nat) : (cells16 f).length = 16 := by simp [cells16]
theorem cells16_at (f : Nat → Nat) (i : Nat) (h : i < 16) : (cells16 f)[i]? = some (Value.int .i64 (f i : Nat)) := by simp [cells16, h]

/-- What kind() answers. -/
def kindF (c r f1 : Nat) : Int := if c = 0 then 5 else if 32768 < r then 2 else if r = 32768 then 1 else if c = 1 ∧ f1 = 1 then 4 else 3
theorem kindF_hk {zs : List Int} (h : okB zs = true) : kindF (sumTo (cnt zs) 15) (sumTo (fun l => cnt zs l * 2 ^ (15 - l)) 15) (cnt zs 1) = hk zs := by
  obtain ⟨h1, h2⟩ := okB_ok h
  rw [← nz_cnt zs h2, ← kr_cnt zs h2, hk, h, if_pos rfl, kindF, hkind]
  by_cases n1 : nz zs = 1
  · have := one_has zs h2 n1
    simp only [n1, true_and, this]
  · simp only [n1, false_and]

set_option maxHeartbeats 3200000 in
theorem kindc_any (f : Nat → Nat) (L : List Value) (w : World) (hl : L.length = 16) (hL : ∀ i, i < 16 → L[i]? = some (Value.int .i64 (f i : Nat))) (hf : ∀ i, f i ≤ 320) :
    Calls Try.prog 41 #[.agg L.toArray] w fun e w' => e = .returned (.int .i64 (kindF (sumTo f 15) (sumTo (fun l => f l * 2 ^ (15 - l)) 15) (f 1))) ∧ Below w.heap.size w w' := by
  have hC : ∀ i, i < 16 → (w.alloc (.cells L.toArray 65)).cell? ⟨w.heap.size, i, none⟩ = some (.int .i64 (f i : Nat)) := by
    intro i hi
    have := hL i hi
    simp [go_sem, this]
  have hb : Below w.heap.size w (w.alloc (.cells L.toArray 65)) := (Below.refl _ _).alloc (Nat.le_refl _) _
  have HC := hideH hC
  have HB := hideH hb
  have HF := hideH hf
  clear hC hL hl hb hf
  go_enter Try.func41, Try.ntmps41
  go_wp2_with fail
  go_loop [3, 4, 5] (fun c r l => ∃ (j C R : Nat), j ≤ 15 ∧ l = .int .i64 ((j + 1 : Nat) : Int) ∧ c = .int .i64 C ∧ r = .int .i64 R ∧ Hid (C = sumTo f j) ∧ Hid (R = sumTo (fun l => f l * 2 ^ (15 - l)) j) ∧ C ≤ 320 * j ∧ R ≤ 5242880 * j) (fun _ _ l => 16 - (intOf l).toNat)
  case atStart => exact ⟨0, 0, 0, by omega, rfl, rfl, rfl, (rfl : 0 = sumTo f 0), (rfl : 0 = sumTo _ 0), by omega, by omega⟩
  case round =>
    obtain ⟨j, C, R, hj, rfl, rfl, rfl, HCS, HRS, hCl, hRl⟩ := hrel
    by_cases hlt : j < 15
    · have hc := HC.out (j + 1) (by omega)
      have hfj := HF.out (j + 1)
      obtain ⟨P, hP⟩ : ∃ P, 2 ^ (14 - j) = P := ⟨_, rfl⟩
      have hP1 : P ≤ 16384 := hP ▸ Nat.le_trans (Nat.pow_le_pow_right (by omega) (by omega : 14 - j ≤ 14)) (by decide)
      have HC2 : Hid (C + f (j + 1) = sumTo f (j + 1)) := by show _ = _; rw [sumTo, ← HCS.out]
      have HR2 : Hid (R + f (j + 1) * P = sumTo (fun l => f l * 2 ^ (15 - l)) (j + 1)) := by show _ = _; rw [sumTo, ← HRS.out, show 15 - (j + 1) = 14 - j by omega, hP]
      have hfP : f (j + 1) * P ≤ 5242880 := Nat.le_trans (Nat.mul_le_mul hfj hP1) (by decide)
      generalize f (j + 1) = F at *
      have hPi : ((2 : Int) ^ (14 - j)) = (P : Int) := by rw [← hP]; exact (Int.natCast_pow 2 _).symm
      have hmul : (F : Int) * (P : Int) = ((F * P : Nat) : Int) := (Int.natCast_mul F P).symm
      have HMUL := hideH hmul
      obtain ⟨Q, hQ⟩ : ∃ Q, F * P = Q := ⟨_, rfl⟩
      rw [hQ] at hmul hfP
      have HQ := hideH hQ
      clear hQ
      have hR1 : wrap64 (Q : Int) = (Q : Int) := by unfold wrap64; omega
      have hR2 : wrap64 ((R : Int) + (Q : Int)) = (R : Int) + (Q : Int) := by unfold wrap64; omega
      have hHQ : Hid (R + Q = sumTo (fun l => f l * 2 ^ (15 - l)) (j + 1)) := by show _ = _; rw [← HQ.out]; exact HR2.out
      clear hP HR2 HMUL HQ
      go_wp2_with fail
      go_round
      case rel => exact ⟨j + 1, C + F, R + Q, by omega, by go_num, by go_num, by go_num, HC2, hHQ, by omega, by omega⟩
      case measure => simp [intOf]; omega
    · have e : j = 15 := by omega
      subst e
      obtain ⟨F1, hF1⟩ : ∃ F1, f 1 = F1 := ⟨_, rfl⟩
      have HG : Hid (∀ x : Int, x = kindF C R F1 → Ending.returned (.int .i64 x) = .returned (.int .i64 (kindF (sumTo f 15) (sumTo (fun l => f l * 2 ^ (15 - l)) 15) (f 1)))) := by
        intro x hx
        rw [hx, HCS.out, HRS.out, ← hF1]
      have hc1 := HC.out 1 (by omega)
      rw [hF1] at hc1
      clear HC HF HCS HRS hF1
      by_cases n0 : C = 0
      · have HG2 := hideH (HG.out 5 (by rw [kindF, if_pos n0]))
        subst n0
        go_wp2_with fail
        go_ret
        exact ⟨HG2.out, HB.out⟩
      · by_cases k0 : 32768 < R
        · have HG2 := hideH (HG.out 2 (by rw [kindF, if_neg n0, if_pos k0]))
          go_wp2_with fail
          go_ret
          exact ⟨HG2.out, HB.out⟩
        · by_cases k1 : R = 32768
          · have HG2 := hideH (HG.out 1 (by rw [kindF, if_neg n0, if_neg k0, if_pos k1]))
            subst k1
            go_wp2_with fail
            go_ret
            exact ⟨HG2.out, HB.out⟩
          · have k1b : ((R : Int) == 32768) = false := by simp; omega
            by_cases n1 : C = 1
            · have n1b : ((C : Int) == 1) = true := by simp; omega
              by_cases f1 : F1 = 1
              · have HG2 := hideH (HG.out 4 (by rw [kindF, if_neg n0, if_neg k0, if_neg k1, if_pos ⟨n1, f1⟩]))
                have f1b : ((F1 : Int) == 1) = true := by simp; omega
                clear n1 f1
                go_wp2_with fail
                go_ret
                exact ⟨HG2.out, HB.out⟩
              · have HG2 := hideH (HG.out 3 (by rw [kindF, if_neg n0, if_neg k0, if_neg k1, if_neg (by omega)]))
                have f1b : ((F1 : Int) == 1) = false := by simp; omega
                clear n1
                go_wp2_with fail
                go_ret
                exact ⟨HG2.out, HB.out⟩
            · have HG2 := hideH (HG.out 3 (by rw [kindF, if_neg n0, if_neg k0, if_neg k1, if_neg (by omega)]))
              have n1b : ((C : Int) == 1) = false := by simp; omega
              go_wp2_with fail
              go_ret
              exact ⟨HG2.out, HB.out⟩

end Go.Proofs.Ytmfacacpoajpgac
