import Derived.Deep.AppendLies
import Derived.Test.YtbddkkfakkedaaaGreatDoorMAS
import Derived.Test.YtbddkkfakkedaaaGreatDoorMBB
namespace Go.Proofs.YtbddkkfakkedaaaGreatDoor
open Go.RowKit
attribute [local go_sem ↓] Go.wp_at_zero Go.wp_at_succ
set_option linter.unusedVariables false

def gfx (s : Nat) : Int := if 144 ≤ s ∧ s < 256 then 9 else if 256 ≤ s ∧ s < 280 then 7 else 8
theorem gfx_a {k : Nat} (h : k < 144) : gfx k = 8 := by rw [gfx, if_neg (by omega), if_neg (by omega)]
theorem gfx_b {k : Nat} (h : ¬ k < 144) (h2 : k < 256) : gfx k = 9 := by rw [gfx, if_pos (by omega)]
theorem gfx_c {k : Nat} (h : ¬ k < 256) (h2 : k < 280) : gfx k = 7 := by rw [gfx, if_neg (by omega), if_pos (by omega)]
theorem gfx_d {k : Nat} (h : ¬ k < 280) : gfx k = 8 := by rw [gfx, if_neg (by omega), if_neg (by omega)]
theorem gF288_at (s : Nat) (h : s < 288) : F288.getD s 0 = gfx s := by
  have h1 : ∀ s : Fin 288, F288.getD s.val 0 = gfx s.val := by decide +kernel
  exact h1 ⟨s, h⟩
theorem gnews1 (w : World) (x : Value) (t : TypeId) : ∀ j u, ([x] : List Value)[j]? = some u → (w.alloc (.cells #[x] t)).cell? ((⟨w.heap.size, 0, none⟩ : Addr).add j) = some u := by
  intro j u h
  have hj : j = 0 := by
    rcases Nat.eq_zero_or_pos j with h' | h'
    · exact h'
    · rw [List.getElem?_eq_none (by simp; omega)] at h; cases h
  subst hj
  simp at h
  subst h
  simp [go_sem]
end Go.Proofs.YtbddkkfakkedaaaGreatDoor
namespace Go.Proofs.YtbddkkfakkedaaaGreatDoor
open Go.RowKit
set_option linter.unusedVariables false

/-- A row of bytes with zeros behind, M in all. -/
def pad (M : Nat) (Z : List Int) : List Int := Z ++ List.replicate (M - Z.length) 0
theorem pad_len (M : Nat) (Z : List Int) (h : Z.length ≤ M) : (pad M Z).length = M := by simp [pad]; omega
theorem pad_full (M : Nat) (Z : List Int) (h : Z.length = M) : pad M Z = Z := by simp [pad, h]
theorem pad_nil (M : Nat) : pad M [] = List.replicate M 0 := by simp [pad]
theorem pad_next (L : List Nat) (b M : Nat) (hL : Bin L) (hb : b ≤ 1) (hM : L.length / 8 < M) : ∃ x : Nat, (pad M (pk L)).getD (L.length / 8) 0 = (x : Int) ∧ x < 2 ^ (L.length % 8) ∧ (pad M (pk L)).set (L.length / 8) ((x + b * 2 ^ (L.length % 8) : Nat) : Int) = pad M (pk (L ++ [b])) := by
  have hlen := pk_len L
  by_cases h8 : L.length % 8 = 0
  · have hl : (pk L).length = L.length / 8 := by omega
    obtain ⟨m, hm⟩ : ∃ m, M - (pk L).length = m + 1 := ⟨M - (pk L).length - 1, by omega⟩
    refine ⟨0, ?_, Nat.two_pow_pos _, ?_⟩
    · unfold pad
      rw [hm, List.getD_eq_getElem?_getD, List.getElem?_append_right (by omega), hl, Nat.sub_self]
      rfl
    · rw [pk_snoc, pkOne, if_pos h8, h8]
      unfold pad
      rw [hm, List.set_append_right _ _ (by omega), hl, Nat.sub_self, List.replicate_succ, List.set_cons_zero, List.length_append]
      rw [show M - ((pk L).length + [(b : Int)].length) = m by rw [List.length_singleton]; omega, List.append_assoc]
      simp
  · obtain ⟨x, hx, hx2⟩ := pk_top L hL h8
    have hl : L.length / 8 < (pk L).length := by omega
    refine ⟨x, ?_, hx2, ?_⟩
    · unfold pad
      rw [List.getD_eq_getElem?_getD, List.getElem?_append_left hl, ← List.getD_eq_getElem?_getD]
      exact hx
    · rw [pk_snoc, pkOne, if_neg h8, hx]
      unfold pad
      rw [List.set_append_left _ _ hl, List.length_set]
      rfl
theorem pk_octets (L : List Nat) (hL : Bin L) : Octets (pk L) := by
  induction L using snoc_ind with
  | h0 => intro z hz; rw [pk_nil] at hz; cases hz
  | h1 L b ih =>
    have hb : b ≤ 1 := hL b (by simp)
    have ih := ih hL.left
    rw [pk_snoc]
    unfold pkOne
    split
    · intro z hz
      rcases List.mem_append.1 hz with h | h
      · exact ih z h
      · have e : z = (b : Int) := by simpa using h
        subst e
        omega
    · rename_i h8
      obtain ⟨x, hx, hx2⟩ := pk_top L hL.left h8
      intro z hz
      rcases List.mem_or_eq_of_mem_set hz with h | h
      · exact ih z h
      · rw [h, hx]
        have h1 : 2 ^ (L.length % 8) ≤ 2 ^ 7 := Nat.pow_le_pow_right (by decide) (by omega)
        have h2 : b * 2 ^ (L.length % 8) ≤ 1 * 2 ^ (L.length % 8) := Nat.mul_le_mul_right _ hb
        have h3 : (2 : Nat) ^ 7 = 128 := by decide
        omega
theorem rowZ5 (w : World) (t : TypeId) : Row (w.alloc (.cells #[.int .u8 0, .int .u8 0, .int .u8 0, .int .u8 0, .int .u8 0] t)) (some ⟨w.heap.size, 0, none⟩) [0, 0, 0, 0, 0] := by
  refine Row.of fun i hi => ?_
  have h : i = 0 ∨ i = 1 ∨ i = 2 ∨ i = 3 ∨ i = 4 := by simp at hi; omega
  rcases h with rfl | rfl | rfl | rfl | rfl <;> simp [go_sem]
theorem own_three (w : World) (B : Nat) (hB : B ≤ w.heap.size) : OwnsB 5 B (w.alloc (.cells #[.int .u8 1, .int .u8 1, .int .u8 0] 5)) (some ⟨w.heap.size, 0, none⟩) 3 (ib [1, 1, 0]) :=
  World.ownsRow_lit w #[.int .u8 1, .int .u8 1, .int .u8 0] 3 hB (by unfold maxLen; omega) rfl
end Go.Proofs.YtbddkkfakkedaaaGreatDoor
