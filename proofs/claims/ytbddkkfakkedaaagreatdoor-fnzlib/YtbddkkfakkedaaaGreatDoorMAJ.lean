import Derived.Deep.QuietTactic
import Derived.Deep.CutRange
import Derived.Deep.RegionWith
import Derived.Deep.RegionHeld3
import Derived.Deep.DrawnRows
import Derived.Laws.BitsAllLaws
import Derived.Test.YtbddkkfakkedaaaGreatDoorMAA
import Derived.Test.YtbddkkfakkedaaaGreatDoorMAB
namespace Go.Proofs.YtbddkkfakkedaaaGreatDoor
open Go.RowKit
attribute [local go_sem ↓] Go.wp_at_zero Go.wp_at_succ
set_option linter.unusedVariables false

/-- A stored block. -/
def headS (last : Int) (n : Nat) : List Int := [last, ((n % 256 : Nat) : Int), ((n / 256 % 256 : Nat) : Int), ((255 - n % 256 : Nat) : Int), ((255 - n / 256 % 256 : Nat) : Int)]
def blkS (last : Int) (d : List Int) : List Int := headS last d.length ++ d
/-- Stored blocks of per bytes each. -/
def encN (per : Nat) : Nat → List Int → List Int
  | 0, zs => blkS 1 zs
  | n + 1, zs => if zs.length ≤ per then blkS 1 zs else blkS 0 (zs.take per) ++ encN per n (zs.drop per)
theorem encN_same {per : Nat} (h0 : 0 < per) : ∀ (n m : Nat) (zs : List Int), zs.length ≤ n → zs.length ≤ m → encN per n zs = encN per m zs := by
  intro n
  induction n with
  | zero =>
    intro m zs hn hm
    cases m with
    | zero => rfl
    | succ m => rw [encN, encN, if_pos (by omega)]
  | succ n ih =>
    intro m zs hn hm
    cases m with
    | zero => rw [encN, encN, if_pos (by omega)]
    | succ m =>
      rw [encN, encN]
      by_cases h : zs.length ≤ per
      · rw [if_pos h, if_pos h]
      · rw [if_neg h, if_neg h, ih m (zs.drop per) (by rw [List.length_drop]; omega) (by rw [List.length_drop]; omega)]
def encS (per : Nat) (zs : List Int) : List Int := encN per zs.length zs
theorem encS_last {per : Nat} {zs : List Int} (h : zs.length ≤ per) : encS per zs = blkS 1 zs := by
  unfold encS
  cases hz : zs.length with
  | zero => rfl
  | succ n => rw [encN, if_pos h]
theorem encS_more {per : Nat} {zs : List Int} (h0 : 0 < per) (h : per < zs.length) : encS per zs = blkS 0 (zs.take per) ++ encS per (zs.drop per) := by
  unfold encS
  cases hz : zs.length with
  | zero => omega
  | succ n => rw [encN, if_neg (by omega), encN_same h0 n (zs.drop per).length (zs.drop per) (by rw [List.length_drop]; omega) (Nat.le_refl _)]
theorem blkS_len (last : Int) (d : List Int) : (blkS last d).length = d.length + 5 := by simp [blkS, headS]
/-- What lies before a rest. -/
theorem encS_len (per : Nat) (h0 : 0 < per) : ∀ (n : Nat) (zs : List Int), zs.length ≤ n → (encS per zs).length ≤ 6 * zs.length + 5 := by
  intro n
  induction n with
  | zero =>
    intro zs h
    rw [encS_last (by omega), blkS_len]
    omega
  | succ n ih =>
    intro zs h
    by_cases h1 : zs.length ≤ per
    · rw [encS_last h1, blkS_len]
      omega
    · rw [encS_more h0 (by omega), List.length_append, blkS_len]
      have := ih (zs.drop per) (by simp; omega)
      simp only [List.length_take, List.length_drop] at *
      omega
theorem Row.dropped {w : World} {b off : Nat} {zs : List Int} (h : Row w (some ⟨b, off, none⟩) zs) (k : Nat) : Row w (some ⟨b, off + k, none⟩) (zs.drop k) := by
  intro i hi
  rw [List.length_drop] at hi
  obtain ⟨b', o', e, hc⟩ := h (k + i) (by omega)
  simp only [Option.some.injEq, Addr.mk.injEq, and_true] at e
  obtain ⟨rfl, rfl⟩ := e
  refine ⟨b, off + k, rfl, ?_⟩
  rw [Nat.add_assoc, hc]
  simp [List.getD]
theorem Row.taken {w : World} {ao : Option Addr} {zs : List Int} (h : Row w ao zs) (k : Nat) : Row w ao (zs.take k) := by
  intro i hi
  rw [List.length_take] at hi
  obtain ⟨b, o, e, hc⟩ := h i (by omega)
  refine ⟨b, o, e, ?_⟩
  rw [hc]
  simp [List.getD, (by omega : i < k)]
/-- What an encoder answers. -/
def Code (w w' : World) (zs : List Int) (e : Ending) : Prop := ∃ ao cap, e = .returned (.slice ao zs.length cap) ∧ w'.ownsRow w.heap.size 5 1 (.slice ao zs.length cap) zs.length (zs.map (Value.int .u8)) ∧ Below w.heap.size w w'

end Go.Proofs.YtbddkkfakkedaaaGreatDoor
namespace Go.Proofs.YtbddkkfakkedaaaGreatDoor
open Go.RowKit
attribute [local go_sem ↓] Go.wp_at_zero Go.wp_at_succ
set_option linter.unusedVariables false

theorem hideE {p : Prop} (h : p) : Hid p := h
theorem row_five (w : World) (a b c d e : Int) (t : TypeId) : Row (w.alloc (.cells #[.int .u8 a, .int .u8 b, .int .u8 c, .int .u8 d, .int .u8 e] t)) (some ⟨w.heap.size, 0, none⟩) [a, b, c, d, e] := by
  refine Row.of fun i hi => ?_
  simp at hi
  rcases (by omega : i = 0 ∨ i = 1 ∨ i = 2 ∨ i = 3 ∨ i = 4) with rfl | rfl | rfl | rfl | rfl <;> simp [go_sem]
theorem xor_max (a : Nat) (h : a < 256) : bits .xor .u8 IntKind.u8.max (a : Int) = ((255 - a : Nat) : Int) := by
  have h1 : ∀ a : Fin 256, bits .xor .u8 IntKind.u8.max ((a.val : Nat) : Int) = ((255 - a.val : Nat) : Int) := by decide +kernel
  exact h1 ⟨a, h⟩
theorem headS_eq (l n : Nat) : [(l : Int), (n : Int) % 256, (n : Int) / 256 % 256, bits .xor .u8 IntKind.u8.max ((n : Int) % 256), bits .xor .u8 IntKind.u8.max ((n : Int) / 256 % 256)] = headS l n := by
  rw [show (n : Int) % 256 = ((n % 256 : Nat) : Int) from by omega, show (n : Int) / 256 % 256 = ((n / 256 % 256 : Nat) : Int) from by omega, xor_max _ (by omega), xor_max _ (by omega)]
  rfl
theorem blk_own (ao : Option Addr) (n cap : Nat) : (Value.slice ao n cap).ownBlock = blk ao := by cases ao <;> rfl
theorem OwnsB.base {e B : Nat} {w : World} {ao : Option Addr} {cap : Nat} {zs : List Int} (h : OwnsB e B w ao cap zs) : ∀ g, blk ao = some g → B ≤ g := by
  intro g e
  rcases Nat.lt_or_ge g B with h1 | h1
  · exact absurd e (h.mine.far h1)
  · exact h1
/-- Bytes below B stay. -/
theorem Row.beneath {w w' : World} {B : Nat} {ao : Option Addr} {zs : List Int} (h : Row w ao zs) (hb : Below B w w') (hl : ∀ ad, ao = some ad → 0 < zs.length → ad.block < B) : Row w' ao zs := by
  intro i hi
  obtain ⟨b, off, rfl, hc⟩ := h i hi
  exact ⟨b, off, rfl, by rw [hb.cell (p := ⟨b, off + i, none⟩) (hl ⟨b, off, none⟩ rfl (by omega))]; exact hc⟩
end Go.Proofs.YtbddkkfakkedaaaGreatDoor
/-
  BITS PACKED INTO BYTES. No program.
-/
namespace Go.Proofs.YtbddkkfakkedaaaGreatDoor
open Go.RowKit
set_option linter.unusedVariables false

/-- One bit behind i others. -/
def pkOne (out : List Int) (i b : Nat) : List Int := if i % 8 = 0 then out ++ [(b : Int)] else out.set (i / 8) (out.getD (i / 8) 0 + ((b * 2 ^ (i % 8) : Nat) : Int))
def pkS (L : List Nat) : List Int × Nat := L.foldl (fun s b => (pkOne s.1 s.2 b, s.2 + 1)) ([], 0)
/-- The bytes of bits. -/
def pk (L : List Nat) : List Int := (pkS L).1
theorem pkS_snoc (L : List Nat) (b : Nat) : pkS (L ++ [b]) = (pkOne (pkS L).1 (pkS L).2 b, (pkS L).2 + 1) := by
  unfold pkS
  rw [List.foldl_append]
  rfl
theorem snoc_ind {P : List Nat → Prop} (h0 : P []) (h1 : ∀ L b, P L → P (L ++ [b])) : ∀ L, P L := by
  intro L
  have : ∀ n (L : List Nat), L.length = n → P L := by
    intro n
    induction n with
    | zero => intro L h; rw [List.length_eq_zero_iff.1 h]; exact h0
    | succ n ih =>
      intro L h
      have hne : L ≠ [] := by intro e; rw [e] at h; simp at h
      rw [← List.dropLast_concat_getLast hne]
      exact h1 _ _ (ih _ (by simp; omega))
  exact this _ L rfl
theorem pkS_len (L : List Nat) : (pkS L).2 = L.length := by
  refine snoc_ind (P := fun L => (pkS L).2 = L.length) rfl ?_ L
  intro L b ih
  rw [pkS_snoc, List.length_append]
  show (pkS L).2 + 1 = _
  rw [ih]
  rfl
theorem pk_nil : pk [] = [] := rfl
theorem pk_snoc (L : List Nat) (b : Nat) : pk (L ++ [b]) = pkOne (pk L) L.length b := by
  unfold pk
  rw [pkS_snoc, pkS_len]
theorem pk_len (L : List Nat) : (pk L).length = (L.length + 7) / 8 := by
  refine snoc_ind (P := fun L => (pk L).length = (L.length + 7) / 8) rfl ?_ L
  intro L b ih
  rw [pk_snoc, pkOne]
  by_cases h : L.length % 8 = 0
  · rw [if_pos h, List.length_append, ih, List.length_append]
    simp only [List.length_singleton]
    omega
  · rw [if_neg h, List.length_set, ih, List.length_append]
    simp only [List.length_singleton]
    omega
/-- Each is a bit. -/
def Bin (L : List Nat) : Prop := ∀ b ∈ L, b ≤ 1
theorem Bin.app {L M : List Nat} (h : Bin L) (k : Bin M) : Bin (L ++ M) := fun b hb => by
  rcases List.mem_append.1 hb with h' | h'
  · exact h b h'
  · exact k b h'
theorem Bin.left {L M : List Nat} (h : Bin (L ++ M)) : Bin L := fun b hb => h b (List.mem_append_left _ hb)
/-- The last byte has room. -/
theorem pk_top (L : List Nat) (hL : Bin L) (h8 : ¬ L.length % 8 = 0) : ∃ x : Nat, (pk L).getD (L.length / 8) 0 = (x : Int) ∧ x < 2 ^ (L.length % 8) := by
  revert hL h8
  refine snoc_ind (P := fun L => Bin L → ¬ L.length % 8 = 0 → ∃ x : Nat, (pk L).getD (L.length / 8) 0 = (x : Int) ∧ x < 2 ^ (L.length % 8)) (fun _ h => absurd rfl h) ?_ L
  intro L b ih hL h8
  have hb : b ≤ 1 := hL b (by simp)
  have hl : (L ++ [b]).length = L.length + 1 := by simp
  have hpl := pk_len L
  rw [hl] at h8 ⊢
  rw [pk_snoc, pkOne]
  by_cases h : L.length % 8 = 0
  · rw [if_pos h]
    refine ⟨b, ?_, ?_⟩
    · have e : (L.length + 1) / 8 = (pk L).length := by omega
      rw [e]
      simp [List.getD]
    · rw [show (L.length + 1) % 8 = 1 from by omega]
      omega
  · rw [if_neg h]
    obtain ⟨x, hx, hx2⟩ := ih hL.left h
    have e : (L.length + 1) / 8 = L.length / 8 := by omega
    have e2 : (L.length + 1) % 8 = L.length % 8 + 1 := by omega
    rw [e, e2, hx]
    refine ⟨x + b * 2 ^ (L.length % 8), ?_, ?_⟩
    · rw [List.getD, List.getElem?_set_self (by omega)]
      simp
    · rw [Nat.pow_succ]
      have : b * 2 ^ (L.length % 8) ≤ 1 * 2 ^ (L.length % 8) := Nat.mul_le_mul_right _ hb
      omega
/-- The bits of a number. -/
def bitsOf (v n : Nat) : List Nat := (List.range n).map (fun i => v / 2 ^ i % 2)
theorem bitsOf_len (v n : Nat) : (bitsOf v n).length = n := by simp [bitsOf]
theorem bitsOf_zero (v : Nat) : bitsOf v 0 = [] := rfl
theorem bitsOf_succ (v n : Nat) : bitsOf v (n + 1) = bitsOf v n ++ [v / 2 ^ n % 2] := by simp [bitsOf, List.range_succ]
theorem bitsOf_bin (v n : Nat) : Bin (bitsOf v n) := by
  intro b hb
  simp only [bitsOf, List.mem_map, List.mem_range] at hb
  obtain ⟨i, _, rfl⟩ := hb
  omega
theorem or_add (r x b : Nat) (hr : r < 8) (hb : b ≤ 1) (hx : x < 2 ^ r) : bits .or .u8 (x : Int) ((b * 2 ^ r : Nat) : Int) = ((x + b * 2 ^ r : Nat) : Int) := by
  have h : ∀ (r : Fin 8) (x : Fin 128) (b : Fin 2), x.val < 2 ^ r.val → bits .or .u8 (x.val : Int) ((b.val * 2 ^ r.val : Nat) : Int) = ((x.val + b.val * 2 ^ r.val : Nat) : Int) := by decide +kernel
  have hx2 : x < 128 := Nat.lt_of_lt_of_le hx (Nat.pow_le_pow_right (show 0 < 2 by decide) (show r ≤ 7 by omega))
  exact h ⟨r, hr⟩ ⟨x, hx2⟩ ⟨b, by omega⟩ hx
theorem and_one (n : Nat) (h : n < 2 ^ 64) : bits .and .u64 (n : Int) 1 = ((n % 2 : Nat) : Int) := by
  rw [u64_and (n : Int) 1 (by omega) (by omega) (by omega) (by omega)]
  simp
end Go.Proofs.YtbddkkfakkedaaaGreatDoor
