/-
  BITS PACKED INTO BYTES. No program.
-/
import Derived.Test.YtpbchecindmfeaaEncI
import Derived.Laws.BitsAllLaws
namespace Go.Proofs.Ytpbchecindmfeaa
open Go.RowKit
set_option linter.unusedVariables false

/-- One bit behind i others. -/
def pkOne (out : List Int) (i b : Nat) : List Int := if i % 8 = 0 then out ++ [(b : Int)] else out.set (i / 8) (out.getD (i / 8) 0 + ((b * 2 ^ (i % 8) : Nat) : Int))
def pkS (L : List Nat) : List Int × Nat := L.foldl (fun s b => (pkOne s.1 s.2 b, s.2 + 1)) ([], 0)
/-- The bytes of bits. -/
def pk (L : List Nat) : List Int := (pkS L).1
theorem pkS_snoc (L : List Nat) (b : Nat) : pkS (L ++ [b]) = (pkOne (pkS L).1 (pkS L).2 b, (pkS L).2 + 1) := by
  unfold pkS
  rw [List.foldl_append]
  rfl
theorem snoc_ind {P : List Nat → Prop} (h0 : P []) (h1 : ∀ L b, P L → P (L ++ [b])) : ∀ L, P L := by
  intro L
  have : ∀ n (L : List Nat), L.length = n → P L := by
    intro n
    induction n with
    | zero => intro L h; rw [List.length_eq_zero_iff.1 h]; exact h0
    | succ n ih =>
      intro L h
      have hne : L ≠ [] := by intro e; rw [e] at h; simp at h
      rw [← List.dropLast_concat_getLast hne]
      exact h1 _ _ (ih _ (by simp; omega))
  exact this _ L rfl
theorem pkS_len (L : List Nat) : (pkS L).2 = L.length := by
  refine snoc_ind (P := fun L => (pkS L).2 = L.length) rfl ?_ L
  intro L b ih
  rw [pkS_snoc, List.length_append]
  show (pkS L).2 + 1 = _
  rw [ih]
  rfl
theorem pk_nil : pk [] = [] := rfl
theorem pk_snoc (L : List Nat) (b : Nat) : pk (L ++ [b]) = pkOne (pk L) L.length b := by
  unfold pk
  rw [pkS_snoc, pkS_len]
theorem pk_len (L : List Nat) : (pk L).length = (L.length + 7) / 8 := by
  refine snoc_ind (P := fun L => (pk L).length = (L.length + 7) / 8) rfl ?_ L
  intro L b ih
  rw [pk_snoc, pkOne]
  by_cases h : L.length % 8 = 0
  · rw [if_pos h, List.length_append, ih, List.length_append]
    simp only [List.length_singleton]
    omega
  · rw [if_neg h, List.length_set, ih, List.length_append]
    simp only [List.length_singleton]
    omega
/-- Each is a bit. -/
def Bin (L : List Nat) : Prop := ∀ b ∈ L, b ≤ 1
theorem Bin.app {L M : List Nat} (h : Bin L) (k : Bin M) : Bin (L ++ M) := fun b hb => by
  rcases List.mem_append.1 hb with h' | h'
  · exact h b h'
  · exact k b h'
theorem Bin.left {L M : List Nat} (h : Bin (L ++ M)) : Bin L := fun b hb => h b (List.mem_append_left _ hb)
/-- The last byte has room. -/
theorem pk_top (L : List Nat) (hL : Bin L) (h8 : ¬ L.length % 8 = 0) : ∃ x : Nat, (pk L).getD (L.length / 8) 0 = (x : Int) ∧ x < 2 ^ (L.length % 8) := by
  revert hL h8
  refine snoc_ind (P := fun L => Bin L → ¬ L.length % 8 = 0 → ∃ x : Nat, (pk L).getD (L.length / 8) 0 = (x : Int) ∧ x < 2 ^ (L.length % 8)) (fun _ h => absurd rfl h) ?_ L
  intro L b ih hL h8
  have hb : b ≤ 1 := hL b (by simp)
  have hl : (L ++ [b]).length = L.length + 1 := by simp
  have hpl := pk_len L
  rw [hl] at h8 ⊢
  rw [pk_snoc, pkOne]
  by_cases h : L.length % 8 = 0
  · rw [if_pos h]
    refine ⟨b, ?_, ?_⟩
    · have e : (L.length + 1) / 8 = (pk L).length := by omega
      rw [e]
      simp [List.getD]
    · rw [show (L.length + 1) % 8 = 1 from by omega]
      omega
  · rw [if_neg h]
    obtain ⟨x, hx, hx2⟩ := ih hL.left h
    have e : (L.length + 1) / 8 = L.length / 8 := by omega
    have e2 : (L.length + 1) % 8 = L.length % 8 + 1 := by omega
    rw [e, e2, hx]
    refine ⟨x + b * 2 ^ (L.length % 8), ?_, ?_⟩
    · rw [List.getD, List.getElem?_set_self (by omega)]
      simp
    · rw [Nat.pow_succ]
      have : b * 2 ^ (L.length % 8) ≤ 1 * 2 ^ (L.length % 8) := Nat.mul_le_mul_right _ hb
      omega
/-- The bits of a number. -/
def bitsOf (v n : Nat) : List Nat := (List.range n).map (fun i => v / 2 ^ i % 2)
theorem bitsOf_len (v n : Nat) : (bitsOf v n).length = n := by simp [bitsOf]
theorem bitsOf_zero (v : Nat) : bitsOf v 0 = [] := rfl
theorem bitsOf_succ (v n : Nat) : bitsOf v (n + 1) = bitsOf v n ++ [v / 2 ^ n % 2] := by simp [bitsOf, List.range_succ]
theorem bitsOf_bin (v n : Nat) : Bin (bitsOf v n) := by
  intro b hb
  simp only [bitsOf, List.mem_map, List.mem_range] at hb
  obtain ⟨i, _, rfl⟩ := hb
  omega
theorem or_add (r x b : Nat) (hr : r < 8) (hb : b ≤ 1) (hx : x < 2 ^ r) : bits .or .u8 (x : Int) ((b * 2 ^ r : Nat) : Int) = ((x + b * 2 ^ r : Nat) : Int) := by
  have h : ∀ (r : Fin 8) (x : Fin 128) (b : Fin 2), x.val < 2 ^ r.val → bits .or .u8 (x.val : Int) ((b.val * 2 ^ r.val : Nat) : Int) = ((x.val + b.val * 2 ^ r.val : Nat) : Int) := by decide +kernel
  have hx2 : x < 128 := Nat.lt_of_lt_of_le hx (Nat.pow_le_pow_right (show 0 < 2 by decide) (show r ≤ 7 by omega))
  exact h ⟨r, hr⟩ ⟨x, hx2⟩ ⟨b, by omega⟩ hx
theorem and_one (n : Nat) (h : n < 2 ^ 64) : bits .and .u64 (n : Int) 1 = ((n % 2 : Nat) : Int) := by
  rw [u64_and (n : Int) 1 (by omega) (by omega) (by omega) (by omega)]
  simp
end Go.Proofs.Ytpbchecindmfeaa
