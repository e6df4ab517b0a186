import Derived.Test.YtmfacacpoajpgacHK
import Derived.Test.YtmfacacpoajpgacIntS
import Derived.Deep.MidRow
import Derived.Deep.QuietTactic
import Derived.Deep.CutRange
import Derived.Deep.RegionWith
import Derived.Deep.RegionHeld3
import Derived.Deep.DrawnRows
namespace Go.Proofs.Ytmfacacpoajpgac
open Go.RowKit
attribute [local go_sem ↓] Go.wp_at_zero Go.wp_at_succ
set_option linter.unusedVariables false

theorem hideH {p : Prop} (h : p) : Hid p := h
theorem reti {k : IntKind} {a b : Int} (h : a = b) : Ending.returned (.int k a) = .returned (.int k b) := by rw [h]

theorem l3Pow_any (n P : Nat) (hn : n ≤ 62) (hP : 2 ^ n = P) (w : World) : Calls Try.prog 58 #[.int .i64 n] w fun e w' => e = .returned (.int .i64 P) ∧ w' = w := by
  have HQ := hideH hP
  clear hP
  go_enter Try.func58, Try.ntmps58
  go_wp2_with fail
  go_loop [3, 4] (fun x i => ∃ (k p : Nat), k ≤ n ∧ i = .int .i64 k ∧ x = .int .i64 p ∧ Hid (p = 2 ^ k)) (fun _ i => n - (intOf i).toNat)
  case atStart => exact ⟨0, 1, Nat.zero_le _, rfl, rfl, (rfl : 1 = 2 ^ 0)⟩
  case round =>
    obtain ⟨k, p, hk, rfl, rfl, HP⟩ := hrel
    by_cases hlt : k < n
    · have hp : p ≤ 2305843009213693952 := by
        rw [HP.out]
        exact Nat.le_trans (Nat.pow_le_pow_right (by omega) (by omega : k ≤ 61)) (by decide)
      go_wp2_with fail
      go_round
      case rel => exact ⟨k + 1, 2 * p, by omega, by go_num, by go_num, (by rw [HP.out, Nat.pow_succ]; omega : 2 * p = 2 ^ (k + 1))⟩
      case measure => simp [intOf]; omega
    · have e : k = n := by omega
      subst e
      go_wp2_with fail
      go_ret
      have hPp : p = P := by rw [HP.out, HQ.out]
      exact ⟨by rw [hPp]; rfl, rfl⟩

set_option maxHeartbeats 3200000 in
theorem skind_any (ao : Option Addr) (cap : Nat) (zs : List Int) (w : World) (hr : Row64 w ao zs) (hn : zs.length ≤ 1048576) :
    Calls Try.prog 38 #[.slice ao zs.length cap] w fun e w' => e = .returned (.int .i64 (hk zs)) ∧ ∃ q, w' = w.drewN q := by
  by_cases hl : zs.length ≤ 320
  · go_enter Try.func38, Try.ntmps38
    go_wp2_with fail
    go_loopw [3, 4, 5] (fun k n i wr => ∃ (j K N : Nat), j ≤ zs.length ∧ i = .int .i64 j ∧ k = .int .i64 K ∧ n = .int .i64 N ∧ Hid (K = kr (zs.take j)) ∧ Hid (N = nz (zs.take j)) ∧ Hid (okL (zs.take j)) ∧ ∃ q, wr = w.drewN q) (fun _ _ i _ => zs.length - (intOf i).toNat)
    case atStart => exact ⟨0, 0, 0, Nat.zero_le _, rfl, rfl, rfl, (rfl : 0 = kr (zs.take 0)), (rfl : 0 = nz (zs.take 0)), (fun z hz => by simp at hz : okL (zs.take 0)), 0, rfl⟩
    case round =>
      obtain ⟨j, K, N, hj, rfl, rfl, rfl, HK, HN, HO, q, rfl⟩ := hrel
      have hK : K ≤ 5242880 := by
        have h1 := kr_le (zs.take j)
        rw [HK.out]
        have : (zs.take j).length ≤ 320 := by simp; omega
        omega
      have hN : N ≤ 320 := by
        have h1 := nz_le (zs.take j)
        rw [HN.out]
        have : (zs.take j).length ≤ 320 := by simp; omega
        omega
      by_cases hlt : j < zs.length
      · obtain ⟨b, off, rfl, hc⟩ := hr.at hlt
        have hcj := hc j hlt
        have hcq : (w.drewN q).cell? ⟨b, off + j, none⟩ = some (.int .i64 (zs.getD j 0)) := hcj
        have HB : Hid (¬ (0 ≤ zs.getD j 0 ∧ zs.getD j 0 ≤ 15) → okB zs = false) := fun h => okB_bad hlt h
        have HOS : Hid ((0 ≤ zs.getD j 0 ∧ zs.getD j 0 ≤ 15) → okL (zs.take (j + 1))) := fun h => okL_take_succ hlt HO.out h
        have HKS : Hid (kr (zs.take (j + 1)) = K + if 0 < zs.getD j 0 then 2 ^ (15 - (zs.getD j 0).toNat) else 0) := by show _ = _; rw [take_snoc zs j hlt, kr_app, HK.out]
        have HNS : Hid (nz (zs.take (j + 1)) = N + if 0 < zs.getD j 0 then 1 else 0) := by show _ = _; rw [take_snoc zs j hlt, nz_app, HN.out]
        generalize zs.getD j 0 = x at *
        clear hc hr hcj HK HN HO
        by_cases x0 : x < 0
        · have d0 : decide (x < 0) = true := decide_eq_true x0
          have HF : Hid (0 = hk zs) := by show _ = _; rw [hk, HB.out (by omega)]; rfl
          go_wp2_with fail
          go_ret
          exact ⟨reti HF.out, q, rfl⟩
        · have d0 : decide (x < 0) = false := decide_eq_false x0
          by_cases x1 : 15 < x
          · have d1 : decide (15 < x) = true := decide_eq_true x1
            have HF : Hid (0 = hk zs) := by show _ = _; rw [hk, HB.out (by omega)]; rfl
            go_wp2_with fail
            go_ret
            exact ⟨reti HF.out, q, rfl⟩
          · have d1 : decide (15 < x) = false := decide_eq_false x1
            have HOT := hideH (HOS.out (by omega))
            obtain ⟨y, rfl⟩ : ∃ y : Nat, x = y := ⟨x.toNat, by omega⟩
            by_cases x2 : 0 < y
            · have hz : (15 : Int) - (y : Int) = ((15 - y : Nat) : Int) := by omega
              obtain ⟨P, hP⟩ : ∃ P, 2 ^ (15 - y) = P := ⟨_, rfl⟩
              have HP : Hid _ := l3Pow_any (15 - y) P (by omega) hP
              have hpw : P ≤ 16384 := hP ▸ Nat.le_trans (Nat.pow_le_pow_right (by omega) (by omega : 15 - y ≤ 14)) (by decide)
              have HK2 : Hid (K + P = kr (zs.take (j + 1))) := by show _ = _; rw [HKS.out, if_pos (by omega), Int.toNat_natCast, hP]
              have HN2 : Hid (N + 1 = nz (zs.take (j + 1))) := by show _ = _; rw [HNS.out, if_pos (by omega)]
              obtain ⟨Y, hY⟩ : ∃ Y, 15 - y = Y := ⟨_, rfl⟩
              rw [hY] at hz HP
              clear HB HOS HKS HNS hP hY
              go_wp2_with fail
              refine Calls.mono (HP.out _) ?_
              rintro e w1 ⟨rfl, rfl⟩
              go_wp2_with fail
              go_roundw
              case rel => exact ⟨j + 1, K + P, N + 1, by omega, by go_num, by go_num, by go_num, HK2, HN2, HOT, q, rfl⟩
              case measure => simp [intOf]; omega
            · have HK2 : Hid (K = kr (zs.take (j + 1))) := by show _ = _; rw [HKS.out, if_neg (by omega)]; rfl
              have HN2 : Hid (N = nz (zs.take (j + 1))) := by show _ = _; rw [HNS.out, if_neg (by omega)]; rfl
              clear HB HOS HKS HNS
              go_wp2_with fail
              go_roundw
              case rel => exact ⟨j + 1, K, N, by omega, by go_num, rfl, rfl, HK2, HN2, HOT, q, rfl⟩
              case measure => simp [intOf]; omega
      · have e : j = zs.length := by omega
        have HF : Hid (hk zs = hkind N K) := by
          show _ = _
          have hok : okL zs := by have := HO.out; rw [e, List.take_length] at this; exact this
          rw [hk, okB_of hl hok, if_pos rfl, HN.out, HK.out, e, List.take_length]
        have HP15 : Hid _ := l3Pow_any 15 32768 (by omega) (by decide)
        have HP14 : Hid _ := l3Pow_any 14 16384 (by omega) (by decide)
        clear HK HN HO hr
        by_cases n0 : N = 0
        · subst n0
          have HG : Hid (5 = hk zs) := by show _ = _; rw [HF.out]; rfl
          go_wp2_with fail
          go_ret
          exact ⟨reti HG.out, q, rfl⟩
        · by_cases k0 : 32768 < K
          · have HG : Hid (2 = hk zs) := by show _ = _; rw [HF.out, hkind, if_neg n0, if_pos k0]
            go_wp2_with fail
            refine Calls.mono (HP15.out _) ?_
            rintro e w1 ⟨rfl, rfl⟩
            go_wp2_with fail
            go_ret
            exact ⟨reti HG.out, q, rfl⟩
          · by_cases k1 : K = 32768
            · have HG : Hid (1 = hk zs) := by show _ = _; rw [HF.out, hkind, if_neg n0, if_neg k0, if_pos k1]
              subst k1
              go_wp2_with fail
              refine Calls.mono (HP15.out _) ?_
              rintro e w1 ⟨rfl, rfl⟩
              go_wp2_with fail
              refine Calls.mono (HP15.out _) ?_
              rintro e w1 ⟨rfl, rfl⟩
              go_wp2_with fail
              go_ret
              exact ⟨reti HG.out, q, rfl⟩
            · have k1b : ((K : Int) == 32768) = false := by simp; omega
              by_cases n1 : N = 1
              · subst n1
                by_cases k2 : K = 16384
                · have HG : Hid (4 = hk zs) := by show _ = _; rw [HF.out, k2]; rfl
                  have k2b : ((K : Int) == 16384) = true := by simp; omega
                  go_wp2_with fail
                  refine Calls.mono (HP15.out _) ?_
                  rintro e w1 ⟨rfl, rfl⟩
                  go_wp2_with fail
                  refine Calls.mono (HP15.out _) ?_
                  rintro e w1 ⟨rfl, rfl⟩
                  go_wp2_with fail
                  refine Calls.mono (HP14.out _) ?_
                  rintro e w1 ⟨rfl, rfl⟩
                  go_wp2_with fail
                  go_ret
                  exact ⟨reti HG.out, q, rfl⟩
                · have HG : Hid (3 = hk zs) := by show _ = _; rw [HF.out, hkind, if_neg n0, if_neg k0, if_neg k1, if_neg (by omega)]
                  have k2b : ((K : Int) == 16384) = false := by simp; omega
                  go_wp2_with fail
                  refine Calls.mono (HP15.out _) ?_
                  rintro e w1 ⟨rfl, rfl⟩
                  go_wp2_with fail
                  refine Calls.mono (HP15.out _) ?_
                  rintro e w1 ⟨rfl, rfl⟩
                  go_wp2_with fail
                  refine Calls.mono (HP14.out _) ?_
                  rintro e w1 ⟨rfl, rfl⟩
                  go_wp2_with fail
                  go_ret
                  exact ⟨reti HG.out, q, rfl⟩
              · have HG : Hid (3 = hk zs) := by show _ = _; rw [HF.out, hkind, if_neg n0, if_neg k0, if_neg k1, if_neg (by omega)]
                have n1b : ((N : Int) == 1) = false := by simp; omega
                go_wp2_with fail
                refine Calls.mono (HP15.out _) ?_
                rintro e w1 ⟨rfl, rfl⟩
                go_wp2_with fail
                refine Calls.mono (HP15.out _) ?_
                rintro e w1 ⟨rfl, rfl⟩
                go_wp2_with fail
                go_ret
                exact ⟨reti HG.out, q, rfl⟩
  · have HF : Hid (0 = hk zs) := by show _ = _; rw [hk, okB_long hl]; rfl
    go_enter Try.func38, Try.ntmps38
    go_wp2_with fail
    go_ret
    exact ⟨reti HF.out, 0, rfl⟩

end Go.Proofs.Ytmfacacpoajpgac
