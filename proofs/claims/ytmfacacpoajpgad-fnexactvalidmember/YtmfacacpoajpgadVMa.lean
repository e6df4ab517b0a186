import Derived.Test.YtmfacacpoajpgadByteS
import Derived.Test.YtmfacacpoajpgadOwn
import Derived.Deep.QuietTactic
import Derived.Deep.RegionHeld3
import Derived.Deep.DrawnRows
import Derived.Deep.CutRange
import Derived.Laws.BitsAllLaws
namespace Go.Proofs.Ytmfacacpoajpgad
open Go.RowKit
attribute [local go_sem ↓] Go.wp_at_zero Go.wp_at_succ
set_option linter.unusedVariables false

theorem hideV {p : Prop} (h : p) : Hid p := h
/-- within. -/
def wi (x m : Int) : Bool := decide (0 ≤ x ∧ x ≤ m)
/-- hasFlag. -/
def hfl (f fl : Int) : Bool := bits BinOp.and IntKind.i64 f fl != 0
theorem hfl_4 (f : Int) (h0 : 0 ≤ f) (h1 : f ≤ 31) : hfl f 4 = decide (f / 4 % 2 = 1) := by
  obtain ⟨n, rfl⟩ : ∃ n : Nat, f = n := ⟨f.toNat, by omega⟩
  exact (by decide +kernel : ∀ n : Nat, n < 32 → hfl (n : Int) 4 = decide ((n : Int) / 4 % 2 = 1)) n (by omega)
theorem hfl_8 (f : Int) (h0 : 0 ≤ f) (h1 : f ≤ 31) : hfl f 8 = decide (f / 8 % 2 = 1) := by
  obtain ⟨n, rfl⟩ : ∃ n : Nat, f = n := ⟨f.toNat, by omega⟩
  exact (by decide +kernel : ∀ n : Nat, n < 32 → hfl (n : Int) 8 = decide ((n : Int) / 8 % 2 = 1)) n (by omega)
theorem hfl_16 (f : Int) (h0 : 0 ≤ f) (h1 : f ≤ 31) : hfl f 16 = decide (f / 16 % 2 = 1) := by
  obtain ⟨n, rfl⟩ : ∃ n : Nat, f = n := ⟨f.toNat, by omega⟩
  exact (by decide +kernel : ∀ n : Nat, n < 32 → hfl (n : Int) 16 = decide ((n : Int) / 16 % 2 = 1)) n (by omega)
/-- mayHave. -/
def mhv (f fl : Int) (n : Nat) : Bool := hfl f fl || decide (n = 0)
/-- Whether there is a byte 0. -/
def haz (zs : List Int) : Bool := decide ((0 : Int) ∈ zs)
theorem haz_yes {zs : List Int} {k : Nat} (hk : k < zs.length) (h : zs.getD k 0 = 0) : haz zs = true := by
  refine decide_eq_true ?_
  rw [← h]
  simp [List.getD, hk]
theorem haz_no {zs : List Int} (h : ∀ j, j < zs.length → zs.getD j 0 ≠ 0) : haz zs = false := by
  refine decide_eq_false ?_
  intro hm
  obtain ⟨j, hj, e⟩ := List.getElem_of_mem hm
  refine h j hj ?_
  simp [List.getD, hj, e]
theorem within_any (x m : Int) (w : World) : Calls Try.prog 32 #[.int .i64 x, .int .i64 m] w fun e w' => e = .returned (.bool (wi x m)) ∧ w' = w := by
  by_cases c1 : 0 ≤ x
  · by_cases c2 : x ≤ m
    · have HV : Hid (true = wi x m) := (decide_eq_true ⟨c1, c2⟩).symm
      have d1 : decide (0 ≤ x) = true := decide_eq_true c1
      have d2 : decide (x ≤ m) = true := decide_eq_true c2
      go_enter Try.func32, Try.ntmps32
      go_wp2
      go_ret
      exact ⟨retb HV.out, rfl⟩
    · have HV : Hid (false = wi x m) := (decide_eq_false (by omega)).symm
      have d1 : decide (0 ≤ x) = true := decide_eq_true c1
      have d2 : decide (x ≤ m) = false := decide_eq_false c2
      go_enter Try.func32, Try.ntmps32
      go_wp2
      go_ret
      exact ⟨retb HV.out, rfl⟩
  · have HV : Hid (false = wi x m) := (decide_eq_false (by omega)).symm
    have d1 : decide (0 ≤ x) = false := decide_eq_false c1
    go_enter Try.func32, Try.ntmps32
    go_wp2
    go_ret
    exact ⟨retb HV.out, rfl⟩
theorem hasFlag_any (f mt xf os sz : Int) (ae an ac : Option Addr) (ne ce nn cn nc cc : Nat) (fl : Int) (w : World) :
    Calls Try.prog 40 #[.agg #[.int .i64 f, .int .i64 mt, .int .i64 xf, .int .i64 os, .slice ae ne ce, .slice an nn cn, .slice ac nc cc, .int .i64 sz], .int .i64 fl] w fun e w' => e = .returned (.bool (hfl f fl)) ∧ Below w.heap.size w w' := by
  go_enter Try.func40, Try.ntmps40
  go_wp2
  go_ret
  exact ⟨rfl, (Below.refl _ _).alloc (Nat.le_refl _) _⟩
theorem mayHave_any (f mt xf os sz : Int) (ae an ac : Option Addr) (ne ce nn cn nc cc : Nat) (fl : Int) (al : Option Addr) (nl cl : Nat) (w : World) :
    Calls Try.prog 33 #[.agg #[.int .i64 f, .int .i64 mt, .int .i64 xf, .int .i64 os, .slice ae ne ce, .slice an nn cn, .slice ac nc cc, .int .i64 sz], .int .i64 fl, .slice al nl cl] w fun e w' => e = .returned (.bool (mhv f fl nl)) ∧ Below w.heap.size w w' := by
  cases hf : hfl f fl with
  | true =>
    have HV : Hid (true = mhv f fl nl) := by show _ = _; rw [mhv, hf]; rfl
    go_enter Try.func33, Try.ntmps33
    go_wp2_with fail
    refine (hasFlag_any f mt xf os sz ae an ac ne ce nn cn nc cc fl _).mono ?_
    rintro e w1 ⟨rfl, hb1⟩
    rw [hf]
    go_wp2_with fail
    go_ret
    exact ⟨retb HV.out, ((Below.refl _ _).alloc (Nat.le_refl _) _).trans (hb1.mono (by simp))⟩
  | false =>
    have HV : Hid (decide (nl = 0) = mhv f fl nl) := by show _ = _; rw [mhv, hf]; rfl
    go_enter Try.func33, Try.ntmps33
    go_wp2_with fail
    refine (hasFlag_any f mt xf os sz ae an ac ne ce nn cn nc cc fl _).mono ?_
    rintro e w1 ⟨rfl, hb1⟩
    rw [hf]
    by_cases hn : nl = 0
    · subst hn
      go_wp2_with fail
      go_ret
      exact ⟨retb HV.out, ((Below.refl _ _).alloc (Nat.le_refl _) _).trans (hb1.mono (by simp))⟩
    · have hn' : ((nl : Int) == 0) = false := by simp [hn]
      have HV2 : Hid (false = mhv f fl nl) := by show _ = _; rw [← HV.out]; simp [hn]
      clear HV hn
      go_wp2_with fail
      go_ret
      exact ⟨retb HV2.out, ((Below.refl _ _).alloc (Nat.le_refl _) _).trans (hb1.mono (by simp))⟩
theorem index0_any (ao : Option Addr) (cap : Nat) (zs : List Int) (w : World) (hr : Row w ao zs) (hn : zs.length ≤ 140737488355328) :
    Calls Try.prog 41 #[.slice ao zs.length cap, .int .u8 0] w fun e w' => ∃ k : Int, e = .returned (.int .i64 k) ∧ decide (0 ≤ k) = haz zs ∧ ∃ q, w' = w.drewN q := by
  go_enter Try.func41, Try.ntmps41
  go_wp2_with fail
  go_loopw [8] (fun i wr => ∃ k : Nat, k ≤ zs.length ∧ i = .int .i64 k ∧ (∃ q, wr = w.drewN q) ∧ Hid (∀ j, j < k → zs.getD j 0 ≠ 0)) (fun i _ => zs.length - (intOf i).toNat)
  case atStart => exact ⟨0, Nat.zero_le _, rfl, ⟨0, rfl⟩, fun j hj => absurd hj (by omega)⟩
  case round =>
    obtain ⟨k, hk, rfl, ⟨q, rfl⟩, HE⟩ := hrel
    by_cases hlt : k < zs.length
    · obtain ⟨b1, o1, rfl, hc1⟩ := hr.at hlt
      have h1 := hc1 k hlt
      clear hc1 hr
      by_cases he : zs.getD k 0 = 0
      · have HF := hideV (haz_yes hlt he)
        rw [he] at h1
        clear he HE
        go_wp2_with fail
        go_ret
        refine ⟨_, rfl, ?_, ?_⟩
        · rw [HF.out]; exact decide_eq_true (by omega)
        · exact ⟨_, rfl⟩
      · have HN : Hid (∀ j, j < k + 1 → zs.getD j 0 ≠ 0) := by
          intro j hj
          rcases Nat.lt_succ_iff_lt_or_eq.1 hj with h | rfl
          · exact HE.out j h
          · exact he
        generalize zs.getD k 0 = x at *
        have hx : (0 == x) = false := by
          rw [beq_eq_false_iff_ne]
          omega
        clear he HE
        go_wp2_with fail
        go_roundw
        case rel => exact ⟨k + 1, by omega, by go_num, ⟨_, rfl⟩, HN⟩
        case measure => simp [intOf]; omega
    · have e : k = zs.length := by omega
      have HF : Hid (haz zs = false) := haz_no (fun j hj => HE.out j (by omega))
      clear HE
      go_wp2_with fail
      go_ret
      exact ⟨-1, rfl, by rw [HF.out]; decide, q, rfl⟩
theorem contains0_any (ao : Option Addr) (cap : Nat) (zs : List Int) (w : World) (hr : Row w ao zs) (hn : zs.length ≤ 140737488355328) :
    Calls Try.prog 34 #[.slice ao zs.length cap, .int .u8 0] w fun e w' => e = .returned (.bool (haz zs)) ∧ Below w.heap.size w w' := by
  go_enter Try.func34, Try.ntmps34
  go_wp2_with fail
  refine (index0_any ao cap zs _ hr hn).mono ?_
  rintro e w1 ⟨k, rfl, hk, q, rfl⟩
  have HK := hideV hk
  clear hk
  go_wp2_with fail
  go_ret
  exact ⟨retb HK.out, below_drewN' _ _ _⟩
theorem noZero_any (ao : Option Addr) (cap : Nat) (zs : List Int) (w : World) (hr : Row w ao zs) (hn : zs.length ≤ 140737488355328) :
    Calls Try.prog 31 #[.slice ao zs.length cap] w fun e w' => e = .returned (.bool (!haz zs)) ∧ Below w.heap.size w w' := by
  go_enter Try.func31, Try.ntmps31
  go_wp2_with fail
  go_loopw [3] (fun i wr => ∃ k : Nat, k ≤ zs.length ∧ i = .int .i64 k ∧ (∃ q, wr = w.drewN q) ∧ Hid (∀ j, j < k → zs.getD j 0 ≠ 0)) (fun i _ => zs.length - (intOf i).toNat)
  case atStart => exact ⟨0, Nat.zero_le _, rfl, ⟨0, rfl⟩, fun j hj => absurd hj (by omega)⟩
  case round =>
    obtain ⟨k, hk, rfl, ⟨q, rfl⟩, HE⟩ := hrel
    by_cases hlt : k < zs.length
    · obtain ⟨b1, o1, rfl, hc1⟩ := hr.at hlt
      have h1 := hc1 k hlt
      clear hc1 hr
      by_cases he : zs.getD k 0 = 0
      · have HF : Hid (false = !haz zs) := by show _ = _; rw [haz_yes hlt he]; rfl
        rw [he] at h1
        clear he HE
        go_wp2_with fail
        go_ret
        exact ⟨retb HF.out, below_drewN' _ _ _⟩
      · have HN : Hid (∀ j, j < k + 1 → zs.getD j 0 ≠ 0) := by
          intro j hj
          rcases Nat.lt_succ_iff_lt_or_eq.1 hj with h | rfl
          · exact HE.out j h
          · exact he
        generalize zs.getD k 0 = x at *
        have hx : (x == 0) = false := by
          rw [beq_eq_false_iff_ne]
          omega
        clear he HE
        go_wp2_with fail
        go_roundw
        case rel => exact ⟨k + 1, by omega, by go_num, ⟨_, rfl⟩, HN⟩
        case measure => simp [intOf]; omega
    · have e : k = zs.length := by omega
      have HF : Hid (true = !haz zs) := by show _ = _; rw [haz_no (fun j hj => HE.out j (by omega))]; rfl
      clear HE
      go_wp2_with fail
      go_ret
      exact ⟨retb HF.out, below_drewN' _ _ _⟩
end Go.Proofs.Ytmfacacpoajpgad
