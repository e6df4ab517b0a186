/-
  LENGTHS OF CODES: counts, the sum of 2^(15 - length), the kind. No program.
-/
import Derived.WalkKit
import Derived.WalkSpells
import Derived.Deep.Draws
namespace Go.Proofs.Ytmfacacpoajpgac
open Go.RowKit

/-- How many have the length l. -/
def cnt (zs : List Int) (l : Nat) : Nat := zs.countP (fun z => z == (l : Int))
theorem cnt_nil (l : Nat) : cnt [] l = 0 := rfl
theorem cnt_app (zs : List Int) (z : Int) (l : Nat) : cnt (zs ++ [z]) l = cnt zs l + if z = (l : Int) then 1 else 0 := by
  simp only [cnt, List.countP_append, List.countP_cons, List.countP_nil, Nat.zero_add]
  congr 1
  by_cases h : z = (l : Int) <;> simp [h]
theorem cnt_le (zs : List Int) (l : Nat) : cnt zs l ≤ zs.length := List.countP_le_length

/-- Sums over the lengths 1 .. n. -/
def sumTo (f : Nat → Nat) : Nat → Nat
  | 0 => 0
  | n + 1 => sumTo f n + f (n + 1)
theorem sumTo_add (f g : Nat → Nat) (n : Nat) : sumTo (fun l => f l + g l) n = sumTo f n + sumTo g n := by
  induction n with
  | zero => rfl
  | succ n ih => simp only [sumTo, ih]; omega
theorem sumTo_zero (n : Nat) : sumTo (fun _ => 0) n = 0 := by
  induction n with
  | zero => rfl
  | succ n ih => simp only [sumTo, ih]
theorem sumTo_one (f : Nat → Nat) (z n : Nat) : sumTo (fun l => if z = l then f l else 0) n = if 1 ≤ z ∧ z ≤ n then f z else 0 := by
  induction n with
  | zero => simp only [sumTo]; rw [if_neg (by omega)]
  | succ n ih =>
    simp only [sumTo, ih]
    by_cases h : z = n + 1
    · subst h; rw [if_neg (by omega), if_pos rfl, if_pos (by omega)]; omega
    · rw [if_neg h]
      by_cases h2 : 1 ≤ z ∧ z ≤ n
      · rw [if_pos h2, if_pos (by omega)]; rfl
      · rw [if_neg h2, if_neg (by omega)]
theorem sumTo_congr {f g : Nat → Nat} {n : Nat} (h : ∀ l, l ≤ n → f l = g l) : sumTo f n = sumTo g n := by
  induction n with
  | zero => rfl
  | succ n ih => simp only [sumTo, ih (fun l hl => h l (by omega)), h (n + 1) (Nat.le_refl _)]

/-- All are lengths. -/
def okL (zs : List Int) : Prop := ∀ z ∈ zs, 0 ≤ z ∧ z ≤ 15
/-- How many have a code; the sum. -/
def nz : List Int → Nat
  | [] => 0
  | z :: zs => (if 0 < z then 1 else 0) + nz zs
def kr : List Int → Nat
  | [] => 0
  | z :: zs => (if 0 < z then 2 ^ (15 - z.toNat) else 0) + kr zs
theorem nz_app (zs : List Int) (z : Int) : nz (zs ++ [z]) = nz zs + if 0 < z then 1 else 0 := by
  induction zs with
  | nil => simp [nz]
  | cons a zs ih => simp only [List.cons_append, nz, ih]; omega
theorem kr_app (zs : List Int) (z : Int) : kr (zs ++ [z]) = kr zs + if 0 < z then 2 ^ (15 - z.toNat) else 0 := by
  induction zs with
  | nil => simp [kr]
  | cons a zs ih => simp only [List.cons_append, kr, ih]; omega
theorem nz_le (zs : List Int) : nz zs ≤ zs.length := by
  induction zs with
  | nil => exact Nat.le_refl _
  | cons z zs ih => simp only [nz, List.length_cons]; split <;> omega
theorem pow_le (z : Int) : (if 0 < z then 2 ^ (15 - z.toNat) else 0) ≤ 16384 := by
  split
  · have : (2 : Nat) ^ (15 - z.toNat) ≤ 2 ^ 14 := Nat.pow_le_pow_right (by omega) (by omega)
    omega
  · omega
theorem kr_le (zs : List Int) : kr zs ≤ 16384 * zs.length := by
  induction zs with
  | nil => simp [kr]
  | cons z zs ih => have := pow_le z; simp only [kr, List.length_cons]; omega
theorem cnt_cons (z : Int) (zs : List Int) (l : Nat) : cnt (z :: zs) l = cnt zs l + if z = (l : Int) then 1 else 0 := by
  simp only [cnt, List.countP_cons]
  congr 1
  by_cases h : z = (l : Int) <;> simp [h]
theorem nz_cnt (zs : List Int) (h : okL zs) : nz zs = sumTo (cnt zs) 15 := by
  induction zs with
  | nil => rw [show cnt [] = fun _ => 0 from funext cnt_nil, sumTo_zero]; rfl
  | cons z zs ih =>
    have hz := h z (by simp)
    obtain ⟨k, rfl⟩ : ∃ k : Nat, z = k := ⟨z.toNat, by omega⟩
    have e : cnt ((k : Int) :: zs) = fun l => cnt zs l + if k = l then 1 else 0 := by
      funext l; rw [cnt_cons]; simp only [Int.ofNat_inj]
    rw [e, sumTo_add, sumTo_one (fun _ => 1), nz, ih (fun x hx => h x (by simp [hx]))]
    by_cases hk : 0 < k
    · rw [if_pos (by omega), if_pos (by omega)]; omega
    · rw [if_neg (by omega), if_neg (by omega)]; omega
theorem kr_cnt (zs : List Int) (h : okL zs) : kr zs = sumTo (fun l => cnt zs l * 2 ^ (15 - l)) 15 := by
  induction zs with
  | nil => rw [show (fun l => cnt [] l * 2 ^ (15 - l)) = fun _ => 0 from funext (fun l => by rw [cnt_nil, Nat.zero_mul]), sumTo_zero]; rfl
  | cons z zs ih =>
    have hz := h z (by simp)
    obtain ⟨k, rfl⟩ : ∃ k : Nat, z = k := ⟨z.toNat, by omega⟩
    have e : (fun l => cnt ((k : Int) :: zs) l * 2 ^ (15 - l)) = fun l => cnt zs l * 2 ^ (15 - l) + if k = l then 2 ^ (15 - l) else 0 := by
      funext l
      rw [cnt_cons, Nat.add_mul]
      simp only [Int.ofNat_inj]
      by_cases hkl : k = l
      · rw [if_pos hkl, if_pos hkl, Nat.one_mul]
      · rw [if_neg hkl, if_neg hkl, Nat.zero_mul]
    rw [e, sumTo_add, sumTo_one (fun l => 2 ^ (15 - l)), kr, ih (fun x hx => h x (by simp [hx]))]
    by_cases hk : 0 < k
    · rw [if_pos (by omega), if_pos (by omega), Int.toNat_natCast]; omega
    · rw [if_neg (by omega), if_neg (by omega)]; omega
theorem none_has (zs : List Int) (h : okL zs) (h0 : nz zs = 0) : kr zs = 0 ∧ cnt zs 1 = 0 := by
  induction zs with
  | nil => exact ⟨rfl, rfl⟩
  | cons z zs ih =>
    simp only [nz] at h0
    have hz : ¬ 0 < z := by intro hz; rw [if_pos hz] at h0; omega
    rw [if_neg hz] at h0
    obtain ⟨h1, h2⟩ := ih (fun x hx => h x (by simp [hx])) (by omega)
    refine ⟨by simp only [kr]; rw [if_neg hz, h1], ?_⟩
    rw [cnt_cons, h2, if_neg (by simp; omega)]
theorem one_has (zs : List Int) (h : okL zs) (h0 : nz zs = 1) : kr zs = 16384 ↔ cnt zs 1 = 1 := by
  induction zs with
  | nil => simp [nz] at h0
  | cons z zs ih =>
    have ho : okL zs := fun x hx => h x (by simp [hx])
    simp only [nz] at h0
    by_cases hz : 0 < z
    · rw [if_pos hz] at h0
      obtain ⟨h1, h2⟩ := none_has zs ho (by omega)
      have hl := h z (by simp)
      obtain ⟨k, rfl⟩ : ∃ k : Nat, z = k := ⟨z.toNat, by omega⟩
      simp only [kr]
      rw [if_pos hz, h1, cnt_cons, h2, Int.toNat_natCast]
      have hk : k = 1 ∨ k = 2 ∨ k = 3 ∨ k = 4 ∨ k = 5 ∨ k = 6 ∨ k = 7 ∨ k = 8 ∨ k = 9 ∨ k = 10 ∨ k = 11 ∨ k = 12 ∨ k = 13 ∨ k = 14 ∨ k = 15 := by omega
      rcases hk with rfl | rfl | rfl | rfl | rfl | rfl | rfl | rfl | rfl | rfl | rfl | rfl | rfl | rfl | rfl <;> decide
    · rw [if_neg hz] at h0
      simp only [kr]
      rw [if_neg hz, cnt_cons, if_neg (by simp; omega), Nat.zero_add, Nat.add_zero]
      exact ih ho (by omega)

/-- HuffKind of lengths that are valid. -/
def hkind (n k : Nat) : Int := if n = 0 then 5 else if 32768 < k then 2 else if k = 32768 then 1 else if n = 1 ∧ k = 16384 then 4 else 3
/-- HuffKind. -/
def okB (zs : List Int) : Bool := decide (zs.length ≤ 320) && zs.all (fun z => decide (0 ≤ z) && decide (z ≤ 15))
def hk (zs : List Int) : Int := if okB zs then hkind (nz zs) (kr zs) else 0
theorem okB_ok {zs : List Int} (h : okB zs = true) : zs.length ≤ 320 ∧ okL zs := by
  simp only [okB, Bool.and_eq_true, decide_eq_true_eq, List.all_eq_true] at h
  exact ⟨h.1, fun z hz => by have := h.2 z hz; simpa using this⟩
theorem okB_of {zs : List Int} (h1 : zs.length ≤ 320) (h2 : okL zs) : okB zs = true := by
  simp only [okB, Bool.and_eq_true, decide_eq_true_eq, List.all_eq_true]
  exact ⟨h1, fun z hz => by have := h2 z hz; simpa using this⟩
theorem okB_long {zs : List Int} (h1 : ¬ zs.length ≤ 320) : okB zs = false := by
  cases h : okB zs with
  | false => rfl
  | true => exact absurd (okB_ok h).1 h1
theorem okB_bad {zs : List Int} {i : Nat} (hi : i < zs.length) (h1 : ¬ (0 ≤ zs.getD i 0 ∧ zs.getD i 0 ≤ 15)) : okB zs = false := by
  cases h : okB zs with
  | false => rfl
  | true =>
    refine absurd ((okB_ok h).2 zs[i] (List.getElem_mem hi)) ?_
    simpa [List.getD, hi] using h1
theorem take_snoc (zs : List Int) (k : Nat) (h : k < zs.length) : zs.take (k + 1) = zs.take k ++ [zs.getD k 0] := by
  rw [List.take_succ_eq_append_getElem h]
  simp [List.getD, h]
theorem okL_take_succ {zs : List Int} {k : Nat} (h : k < zs.length) (ho : okL (zs.take k)) (h1 : 0 ≤ zs.getD k 0 ∧ zs.getD k 0 ≤ 15) : okL (zs.take (k + 1)) := by
  rw [take_snoc zs k h]
  intro z hz
  rcases List.mem_append.1 hz with hz | hz
  · exact ho z hz
  · have : z = zs.getD k 0 := by simpa using hz
    rw [this]; exact h1
end Go.Proofs.Ytmfacacpoajpgac
