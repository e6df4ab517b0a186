import Derived.Test.YtbddkkfakkedaaaGreatDoorProg
import Derived.WalkKit
import Derived.WalkSpells
import Derived.WalkLawsBesides
import Derived.BigQuiet
import Derived.Deep.MidRow
import Derived.Deep.QuietTactic
import Derived.Deep.CutRange
import Derived.Deep.RegionWith
import Derived.Deep.RegionHeld3
import Derived.Deep.DrawnRows
import Derived.Test.YtbddkkfakkedaaaGreatDoorMAA
import Derived.Test.YtbddkkfakkedaaaGreatDoorMAK
namespace Go.Proofs.YtbddkkfakkedaaaGreatDoor
open Go.RowKit

/-- From 'ao' on lie the numbers zs. -/
def Row64 (w : World) (ao : Option Addr) (zs : List Int) : Prop :=
  ∀ i, i < zs.length → ∃ b off, ao = some ⟨b, off, none⟩ ∧ w.cell? ⟨b, off + i, none⟩ = some (.int .i64 (zs.getD i 0))
theorem Row64.nil (w : World) (ao : Option Addr) : Row64 w ao [] := fun i hi => absurd hi (by simp)
theorem Row64.at {w : World} {ao : Option Addr} {zs : List Int} (h : Row64 w ao zs) {k : Nat} (hk : k < zs.length) :
    ∃ b off, ao = some ⟨b, off, none⟩ ∧ ∀ i, i < zs.length → w.cell? ⟨b, off + i, none⟩ = some (.int .i64 (zs.getD i 0)) := by
  obtain ⟨b, off, rfl, _⟩ := h k hk
  refine ⟨b, off, rfl, fun i hi => ?_⟩
  obtain ⟨b', off', e, hc⟩ := h i hi
  simp only [Option.some.injEq, Addr.mk.injEq, and_true] at e
  obtain ⟨rfl, rfl⟩ := e
  exact hc
theorem Row64.of {w : World} {b off : Nat} {zs : List Int} (h : ∀ i, i < zs.length → w.cell? ⟨b, off + i, none⟩ = some (.int .i64 (zs.getD i 0))) : Row64 w (some ⟨b, off, none⟩) zs :=
  fun i hi => ⟨b, off, rfl, h i hi⟩
theorem Row64.grown {w w' : World} {row : Option Nat} {ao : Option Addr} {zs : List Int} (h : Row64 w ao zs) (hg : w.grownBy w' row) (hne : ∀ ad, ao = some ad → some ad.block ≠ row) : Row64 w' ao zs := by
  intro i hi
  obtain ⟨b, off, rfl, hc⟩ := h i hi
  exact ⟨b, off, rfl, hg.cell hc (hne ⟨b, off, none⟩ rfl)⟩
theorem Row64.below {w w' : World} {ao : Option Addr} {zs : List Int} (h : Row64 w ao zs) (hb : Below w.heap.size w w') : Row64 w' ao zs := by
  intro i hi
  obtain ⟨b, off, rfl, hc⟩ := h i hi
  exact ⟨b, off, rfl, by rw [hb.cell (World.block_lt_of_cell? w _ hc)]; exact hc⟩
theorem Row64.drewN {w : World} {ao : Option Addr} {zs : List Int} (h : Row64 w ao zs) (k : Nat) : Row64 (w.drewN k) ao zs := h
theorem Row64.owned {w : World} {base e g n cap : Nat} {zs : List Int} (h : w.ownsRow base e 1 (.slice (some ⟨g, 0, none⟩) n cap) n (zs.map (Value.int .i64))) : Row64 w (some ⟨g, 0, none⟩) zs := by
  have hl : n = zs.length := by have := h.1; simp at this; omega
  subst hl
  refine Row64.of fun i hi => ?_
  rw [Nat.zero_add, h.cellAt i (by omega)]
  simp [List.getD, hi]
theorem copied_map64 (zs : List Int) (k : Nat) (h : k < zs.length) : ((copied zs k).map (Value.int .i64)).set k (.int .i64 (zs.getD k 0)) = (copied zs (k + 1)).map (Value.int .i64) := by
  rw [← copied_succ zs k h, List.map_set]

end Go.Proofs.YtbddkkfakkedaaaGreatDoor
namespace Go.Proofs.YtbddkkfakkedaaaGreatDoor
open Go.RowKit

theorem Tryz.info_i64 : (Tryz.prog.info? 2).map (fun i => (i.zero, i.size, i.bytes)) = some (some (.int .i64 0), 1, 8) := by kernel_rfl

end Go.Proofs.YtbddkkfakkedaaaGreatDoor
namespace Go.Proofs.YtbddkkfakkedaaaGreatDoor
open Go.RowKit
attribute [local go_sem ↓] Go.wp_at_zero Go.wp_at_succ
set_option linter.unusedVariables false

theorem hideH {p : Prop} (h : p) : Hid p := h
theorem reti {k : IntKind} {a b : Int} (h : a = b) : Ending.returned (.int k a) = .returned (.int k b) := by rw [h]

theorem l3Pow_any (n P : Nat) (hn : n ≤ 62) (hP : 2 ^ n = P) (w : World) : Calls Tryz.prog 139 #[.int .i64 n] w fun e w' => e = .returned (.int .i64 P) ∧ w' = w := by
  have HQ := hideH hP
  clear hP
  go_enter Tryz.func139, Tryz.ntmps139
  go_wp2_with fail
  go_loop [3, 4] (fun x i => ∃ (k p : Nat), k ≤ n ∧ i = .int .i64 k ∧ x = .int .i64 p ∧ Hid (p = 2 ^ k)) (fun _ i => n - (intOf i).toNat)
  case atStart => exact ⟨0, 1, Nat.zero_le _, rfl, rfl, (rfl : 1 = 2 ^ 0)⟩
  case round =>
    obtain ⟨k, p, hk, rfl, rfl, HP⟩ := hrel
    by_cases hlt : k < n
    · have hp : p ≤ 2305843009213693952 := by
        rw [HP.out]
        exact Nat.le_trans (Nat.pow_le_pow_right (by omega) (by omega : k ≤ 61)) (by decide)
      go_wp2_with fail
      go_round
      case rel => exact ⟨k + 1, 2 * p, by omega, by go_num, by go_num, (by rw [HP.out, Nat.pow_succ]; omega : 2 * p = 2 ^ (k + 1))⟩
      case measure => simp [intOf]; omega
    · have e : k = n := by omega
      subst e
      go_wp2_with fail
      go_ret
      have hPp : p = P := by rw [HP.out, HQ.out]
      exact ⟨by rw [hPp]; rfl, rfl⟩

set_option maxHeartbeats 3200000 in
theorem skind_any (ao : Option Addr) (cap : Nat) (zs : List Int) (w : World) (hr : Row64 w ao zs) (hn : zs.length ≤ 1048576) :
    Calls Tryz.prog 97 #[.slice ao zs.length cap] w fun e w' => e = .returned (.int .i64 (hk zs)) ∧ ∃ q, w' = w.drewN q := by
  by_cases hl : zs.length ≤ 320
  · go_enter Tryz.func97, Tryz.ntmps97
    go_wp2_with fail
    go_loopw [3, 4, 5] (fun k n i wr => ∃ (j K N : Nat), j ≤ zs.length ∧ i = .int .i64 j ∧ k = .int .i64 K ∧ n = .int .i64 N ∧ Hid (K = kr (zs.take j)) ∧ Hid (N = nz (zs.take j)) ∧ Hid (okL (zs.take j)) ∧ ∃ q, wr = w.drewN q) (fun _ _ i _ => zs.length - (intOf i).toNat)
    case atStart => exact ⟨0, 0, 0, Nat.zero_le _, rfl, rfl, rfl, (rfl : 0 = kr (zs.take 0)), (rfl : 0 = nz (zs.take 0)), (fun z hz => by simp at hz : okL (zs.take 0)), 0, rfl⟩
    case round =>
      obtain ⟨j, K, N, hj, rfl, rfl, rfl, HK, HN, HO, q, rfl⟩ := hrel
      have hK : K ≤ 5242880 := by
        have h1 := kr_le (zs.take j)
        rw [HK.out]
        have : (zs.take j).length ≤ 320 := by simp; omega
        omega
      have hN : N ≤ 320 := by
        have h1 := nz_le (zs.take j)
        rw [HN.out]
        have : (zs.take j).length ≤ 320 := by simp; omega
        omega
      by_cases hlt : j < zs.length
      · obtain ⟨b, off, rfl, hc⟩ := hr.at hlt
        have hcj := hc j hlt
        have hcq : (w.drewN q).cell? ⟨b, off + j, none⟩ = some (.int .i64 (zs.getD j 0)) := hcj
        have HB : Hid (¬ (0 ≤ zs.getD j 0 ∧ zs.getD j 0 ≤ 15) → okB zs = false) := fun h => okB_bad hlt h
        have HOS : Hid ((0 ≤ zs.getD j 0 ∧ zs.getD j 0 ≤ 15) → okL (zs.take (j + 1))) := fun h => okL_take_succ hlt HO.out h
        have HKS : Hid (kr (zs.take (j + 1)) = K + if 0 < zs.getD j 0 then 2 ^ (15 - (zs.getD j 0).toNat) else 0) := by show _ = _; rw [take_snoc zs j hlt, kr_app, HK.out]
        have HNS : Hid (nz (zs.take (j + 1)) = N + if 0 < zs.getD j 0 then 1 else 0) := by show _ = _; rw [take_snoc zs j hlt, nz_app, HN.out]
        generalize zs.getD j 0 = x at *
        clear hc hr hcj HK HN HO
        by_cases x0 : x < 0
        · have d0 : decide (x < 0) = true := decide_eq_true x0
          have HF : Hid (0 = hk zs) := by show _ = _; rw [hk, HB.out (by omega)]; rfl
          go_wp2_with fail
          go_ret
          exact ⟨reti HF.out, q, rfl⟩
        · have d0 : decide (x < 0) = false := decide_eq_false x0
          by_cases x1 : 15 < x
          · have d1 : decide (15 < x) = true := decide_eq_true x1
            have HF : Hid (0 = hk zs) := by show _ = _; rw [hk, HB.out (by omega)]; rfl
            go_wp2_with fail
            go_ret
            exact ⟨reti HF.out, q, rfl⟩
          · have d1 : decide (15 < x) = false := decide_eq_false x1
            have HOT := hideH (HOS.out (by omega))
            obtain ⟨y, rfl⟩ : ∃ y : Nat, x = y := ⟨x.toNat, by omega⟩
            by_cases x2 : 0 < y
            · have hz : (15 : Int) - (y : Int) = ((15 - y : Nat) : Int) := by omega
              obtain ⟨P, hP⟩ : ∃ P, 2 ^ (15 - y) = P := ⟨_, rfl⟩
              have HP : Hid _ := l3Pow_any (15 - y) P (by omega) hP
              have hpw : P ≤ 16384 := hP ▸ Nat.le_trans (Nat.pow_le_pow_right (by omega) (by omega : 15 - y ≤ 14)) (by decide)
              have HK2 : Hid (K + P = kr (zs.take (j + 1))) := by show _ = _; rw [HKS.out, if_pos (by omega), Int.toNat_natCast, hP]
              have HN2 : Hid (N + 1 = nz (zs.take (j + 1))) := by show _ = _; rw [HNS.out, if_pos (by omega)]
              obtain ⟨Y, hY⟩ : ∃ Y, 15 - y = Y := ⟨_, rfl⟩
              rw [hY] at hz HP
              clear HB HOS HKS HNS hP hY
              go_wp2_with fail
              refine Calls.mono (HP.out _) ?_
              rintro e w1 ⟨rfl, rfl⟩
              go_wp2_with fail
              go_roundw
              case rel => exact ⟨j + 1, K + P, N + 1, by omega, by go_num, by go_num, by go_num, HK2, HN2, HOT, q, rfl⟩
              case measure => simp [intOf]; omega
            · have HK2 : Hid (K = kr (zs.take (j + 1))) := by show _ = _; rw [HKS.out, if_neg (by omega)]; rfl
              have HN2 : Hid (N = nz (zs.take (j + 1))) := by show _ = _; rw [HNS.out, if_neg (by omega)]; rfl
              clear HB HOS HKS HNS
              go_wp2_with fail
              go_roundw
              case rel => exact ⟨j + 1, K, N, by omega, by go_num, rfl, rfl, HK2, HN2, HOT, q, rfl⟩
              case measure => simp [intOf]; omega
      · have e : j = zs.length := by omega
        have HF : Hid (hk zs = hkind N K) := by
          show _ = _
          have hok : okL zs := by have := HO.out; rw [e, List.take_length] at this; exact this
          rw [hk, okB_of hl hok, if_pos rfl, HN.out, HK.out, e, List.take_length]
        have HP15 : Hid _ := l3Pow_any 15 32768 (by omega) (by decide)
        have HP14 : Hid _ := l3Pow_any 14 16384 (by omega) (by decide)
        clear HK HN HO hr
        by_cases n0 : N = 0
        · subst n0
          have HG : Hid (5 = hk zs) := by show _ = _; rw [HF.out]; rfl
          go_wp2_with fail
          go_ret
          exact ⟨reti HG.out, q, rfl⟩
        · by_cases k0 : 32768 < K
          · have HG : Hid (2 = hk zs) := by show _ = _; rw [HF.out, hkind, if_neg n0, if_pos k0]
            go_wp2_with fail
            refine Calls.mono (HP15.out _) ?_
            rintro e w1 ⟨rfl, rfl⟩
            go_wp2_with fail
            go_ret
            exact ⟨reti HG.out, q, rfl⟩
          · by_cases k1 : K = 32768
            · have HG : Hid (1 = hk zs) := by show _ = _; rw [HF.out, hkind, if_neg n0, if_neg k0, if_pos k1]
              subst k1
              go_wp2_with fail
              refine Calls.mono (HP15.out _) ?_
              rintro e w1 ⟨rfl, rfl⟩
              go_wp2_with fail
              refine Calls.mono (HP15.out _) ?_
              rintro e w1 ⟨rfl, rfl⟩
              go_wp2_with fail
              go_ret
              exact ⟨reti HG.out, q, rfl⟩
            · have k1b : ((K : Int) == 32768) = false := by simp; omega
              by_cases n1 : N = 1
              · subst n1
                by_cases k2 : K = 16384
                · have HG : Hid (4 = hk zs) := by show _ = _; rw [HF.out, k2]; rfl
                  have k2b : ((K : Int) == 16384) = true := by simp; omega
                  go_wp2_with fail
                  refine Calls.mono (HP15.out _) ?_
                  rintro e w1 ⟨rfl, rfl⟩
                  go_wp2_with fail
                  refine Calls.mono (HP15.out _) ?_
                  rintro e w1 ⟨rfl, rfl⟩
                  go_wp2_with fail
                  refine Calls.mono (HP14.out _) ?_
                  rintro e w1 ⟨rfl, rfl⟩
                  go_wp2_with fail
                  go_ret
                  exact ⟨reti HG.out, q, rfl⟩
                · have HG : Hid (3 = hk zs) := by show _ = _; rw [HF.out, hkind, if_neg n0, if_neg k0, if_neg k1, if_neg (by omega)]
                  have k2b : ((K : Int) == 16384) = false := by simp; omega
                  go_wp2_with fail
                  refine Calls.mono (HP15.out _) ?_
                  rintro e w1 ⟨rfl, rfl⟩
                  go_wp2_with fail
                  refine Calls.mono (HP15.out _) ?_
                  rintro e w1 ⟨rfl, rfl⟩
                  go_wp2_with fail
                  refine Calls.mono (HP14.out _) ?_
                  rintro e w1 ⟨rfl, rfl⟩
                  go_wp2_with fail
                  go_ret
                  exact ⟨reti HG.out, q, rfl⟩
              · have HG : Hid (3 = hk zs) := by show _ = _; rw [HF.out, hkind, if_neg n0, if_neg k0, if_neg k1, if_neg (by omega)]
                have n1b : ((N : Int) == 1) = false := by simp; omega
                go_wp2_with fail
                refine Calls.mono (HP15.out _) ?_
                rintro e w1 ⟨rfl, rfl⟩
                go_wp2_with fail
                refine Calls.mono (HP15.out _) ?_
                rintro e w1 ⟨rfl, rfl⟩
                go_wp2_with fail
                go_ret
                exact ⟨reti HG.out, q, rfl⟩
  · have HF : Hid (0 = hk zs) := by show _ = _; rw [hk, okB_long hl]; rfl
    go_enter Tryz.func97, Tryz.ntmps97
    go_wp2_with fail
    go_ret
    exact ⟨reti HF.out, 0, rfl⟩

end Go.Proofs.YtbddkkfakkedaaaGreatDoor
namespace Go.Proofs.YtbddkkfakkedaaaGreatDoor
open Go.RowKit
attribute [local go_sem ↓] Go.wp_at_zero Go.wp_at_succ
set_option linter.unusedVariables false

/-- Sixteen counts as cells. -/
def cells16 (f : Nat → Nat) : List Value := (List.range 16).map (fun i => Value.int .i64 (f i : Nat))
theorem cells16_len (f : Nat → Nat) : (cells16 f).length = 16 := by simp [cells16]
theorem cells16_at (f : Nat → Nat) (i : Nat) (h : i < 16) : (cells16 f)[i]? = some (Value.int .i64 (f i : Nat)) := by simp [cells16, h]

/-- What kind() answers. -/
def kindF (c r f1 : Nat) : Int := if c = 0 then 5 else if 32768 < r then 2 else if r = 32768 then 1 else if c = 1 ∧ f1 = 1 then 4 else 3
theorem kindF_hk {zs : List Int} (h : okB zs = true) : kindF (sumTo (cnt zs) 15) (sumTo (fun l => cnt zs l * 2 ^ (15 - l)) 15) (cnt zs 1) = hk zs := by
  obtain ⟨h1, h2⟩ := okB_ok h
  rw [← nz_cnt zs h2, ← kr_cnt zs h2, hk, h, if_pos rfl, kindF, hkind]
  by_cases n1 : nz zs = 1
  · have := one_has zs h2 n1
    simp only [n1, true_and, this]
  · simp only [n1, false_and]

set_option maxHeartbeats 3200000 in
theorem kindc_any (f : Nat → Nat) (L : List Value) (w : World) (hl : L.length = 16) (hL : ∀ i, i < 16 → L[i]? = some (Value.int .i64 (f i : Nat))) (hf : ∀ i, f i ≤ 320) :
    Calls Tryz.prog 77 #[.agg L.toArray] w fun e w' => e = .returned (.int .i64 (kindF (sumTo f 15) (sumTo (fun l => f l * 2 ^ (15 - l)) 15) (f 1))) ∧ Below w.heap.size w w' := by
  have hC : ∀ i, i < 16 → (w.alloc (.cells L.toArray 136)).cell? ⟨w.heap.size, i, none⟩ = some (.int .i64 (f i : Nat)) := by
    intro i hi
    have := hL i hi
    simp [go_sem, this]
  have hb : Below w.heap.size w (w.alloc (.cells L.toArray 136)) := (Below.refl _ _).alloc (Nat.le_refl _) _
  have HC := hideH hC
  have HB := hideH hb
  have HF := hideH hf
  clear hC hL hl hb hf
  go_enter Tryz.func77, Tryz.ntmps77
  go_wp2_with fail
  go_loop [3, 4, 5] (fun c r l => ∃ (j C R : Nat), j ≤ 15 ∧ l = .int .i64 ((j + 1 : Nat) : Int) ∧ c = .int .i64 C ∧ r = .int .i64 R ∧ Hid (C = sumTo f j) ∧ Hid (R = sumTo (fun l => f l * 2 ^ (15 - l)) j) ∧ C ≤ 320 * j ∧ R ≤ 5242880 * j) (fun _ _ l => 16 - (intOf l).toNat)
  case atStart => exact ⟨0, 0, 0, by omega, rfl, rfl, rfl, (rfl : 0 = sumTo f 0), (rfl : 0 = sumTo _ 0), by omega, by omega⟩
  case round =>
    obtain ⟨j, C, R, hj, rfl, rfl, rfl, HCS, HRS, hCl, hRl⟩ := hrel
    by_cases hlt : j < 15
    · have hc := HC.out (j + 1) (by omega)
      have hfj := HF.out (j + 1)
      obtain ⟨P, hP⟩ : ∃ P, 2 ^ (14 - j) = P := ⟨_, rfl⟩
      have hP1 : P ≤ 16384 := hP ▸ Nat.le_trans (Nat.pow_le_pow_right (by omega) (by omega : 14 - j ≤ 14)) (by decide)
      have HC2 : Hid (C + f (j + 1) = sumTo f (j + 1)) := by show _ = _; rw [sumTo, ← HCS.out]
      have HR2 : Hid (R + f (j + 1) * P = sumTo (fun l => f l * 2 ^ (15 - l)) (j + 1)) := by show _ = _; rw [sumTo, ← HRS.out, show 15 - (j + 1) = 14 - j by omega, hP]
      have hfP : f (j + 1) * P ≤ 5242880 := Nat.le_trans (Nat.mul_le_mul hfj hP1) (by decide)
      generalize f (j + 1) = F at *
      have hPi : ((2 : Int) ^ (14 - j)) = (P : Int) := by rw [← hP]; exact (Int.natCast_pow 2 _).symm
      have hmul : (F : Int) * (P : Int) = ((F * P : Nat) : Int) := (Int.natCast_mul F P).symm
      have HMUL := hideH hmul
      obtain ⟨Q, hQ⟩ : ∃ Q, F * P = Q := ⟨_, rfl⟩
      rw [hQ] at hmul hfP
      have HQ := hideH hQ
      clear hQ
      have hR1 : wrap64 (Q : Int) = (Q : Int) := by unfold wrap64; omega
      have hR2 : wrap64 ((R : Int) + (Q : Int)) = (R : Int) + (Q : Int) := by unfold wrap64; omega
      have hHQ : Hid (R + Q = sumTo (fun l => f l * 2 ^ (15 - l)) (j + 1)) := by show _ = _; rw [← HQ.out]; exact HR2.out
      clear hP HR2 HMUL HQ
      go_wp2_with fail
      go_round
      case rel => exact ⟨j + 1, C + F, R + Q, by omega, by go_num, by go_num, by go_num, HC2, hHQ, by omega, by omega⟩
      case measure => simp [intOf]; omega
    · have e : j = 15 := by omega
      subst e
      obtain ⟨F1, hF1⟩ : ∃ F1, f 1 = F1 := ⟨_, rfl⟩
      have HG : Hid (∀ x : Int, x = kindF C R F1 → Ending.returned (.int .i64 x) = .returned (.int .i64 (kindF (sumTo f 15) (sumTo (fun l => f l * 2 ^ (15 - l)) 15) (f 1)))) := by
        intro x hx
        rw [hx, HCS.out, HRS.out, ← hF1]
      have hc1 := HC.out 1 (by omega)
      rw [hF1] at hc1
      clear HC HF HCS HRS hF1
      by_cases n0 : C = 0
      · have HG2 := hideH (HG.out 5 (by rw [kindF, if_pos n0]))
        subst n0
        go_wp2_with fail
        go_ret
        exact ⟨HG2.out, HB.out⟩
      · by_cases k0 : 32768 < R
        · have HG2 := hideH (HG.out 2 (by rw [kindF, if_neg n0, if_pos k0]))
          go_wp2_with fail
          go_ret
          exact ⟨HG2.out, HB.out⟩
        · by_cases k1 : R = 32768
          · have HG2 := hideH (HG.out 1 (by rw [kindF, if_neg n0, if_neg k0, if_pos k1]))
            subst k1
            go_wp2_with fail
            go_ret
            exact ⟨HG2.out, HB.out⟩
          · have k1b : ((R : Int) == 32768) = false := by simp; omega
            by_cases n1 : C = 1
            · have n1b : ((C : Int) == 1) = true := by simp; omega
              by_cases f1 : F1 = 1
              · have HG2 := hideH (HG.out 4 (by rw [kindF, if_neg n0, if_neg k0, if_neg k1, if_pos ⟨n1, f1⟩]))
                have f1b : ((F1 : Int) == 1) = true := by simp; omega
                clear n1 f1
                go_wp2_with fail
                go_ret
                exact ⟨HG2.out, HB.out⟩
              · have HG2 := hideH (HG.out 3 (by rw [kindF, if_neg n0, if_neg k0, if_neg k1, if_neg (by omega)]))
                have f1b : ((F1 : Int) == 1) = false := by simp; omega
                clear n1
                go_wp2_with fail
                go_ret
                exact ⟨HG2.out, HB.out⟩
            · have HG2 := hideH (HG.out 3 (by rw [kindF, if_neg n0, if_neg k0, if_neg k1, if_neg (by omega)]))
              have n1b : ((C : Int) == 1) = false := by simp; omega
              go_wp2_with fail
              go_ret
              exact ⟨HG2.out, HB.out⟩

end Go.Proofs.YtbddkkfakkedaaaGreatDoor
