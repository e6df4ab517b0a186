import Derived.WalkKit
import Derived.WalkSpells
import Derived.Deep.Draws
import Derived.Laws.BitsAllLaws
import Derived.Test.YtbddkkfakkedaaaGreatDoorProg
import Derived.WalkLawsBesides
import Derived.Deep.QuietTactic
import Derived.BigQuiet
/-
  BYTES IN MEMORY: what a slice of bytes reads as, and what stays when other blocks are made or written. No program.
-/
namespace Go.Proofs.YtbddkkfakkedaaaGreatDoor
open Go.RowKit

/-- From 'ao' on lie the bytes zs. -/
def Row (w : World) (ao : Option Addr) (zs : List Int) : Prop :=
  ∀ i, i < zs.length → ∃ b off, ao = some ⟨b, off, none⟩ ∧ w.cell? ⟨b, off + i, none⟩ = some (.int .u8 (zs.getD i 0))

/-- Each is a byte. -/
def Octets (zs : List Int) : Prop := ∀ z ∈ zs, 0 ≤ z ∧ z ≤ 255

theorem Octets.getD {zs : List Int} (h : Octets zs) (i : Nat) : 0 ≤ zs.getD i 0 ∧ zs.getD i 0 ≤ 255 := by
  by_cases hi : i < zs.length
  · have : zs.getD i 0 = zs[i] := by simp [List.getD, hi]
    rw [this]
    exact h _ (List.getElem_mem hi)
  · have : zs.getD i 0 = 0 := by simp [List.getD, hi]
    rw [this]; decide

theorem Row.nil (w : World) (ao : Option Addr) : Row w ao [] := fun i hi => absurd hi (by simp)

theorem Row.at {w : World} {ao : Option Addr} {zs : List Int} (h : Row w ao zs) {k : Nat} (hk : k < zs.length) :
    ∃ b off, ao = some ⟨b, off, none⟩ ∧ ∀ i, i < zs.length → w.cell? ⟨b, off + i, none⟩ = some (.int .u8 (zs.getD i 0)) := by
  obtain ⟨b, off, rfl, _⟩ := h k hk
  refine ⟨b, off, rfl, fun i hi => ?_⟩
  obtain ⟨b', off', e, hc⟩ := h i hi
  simp only [Option.some.injEq, Addr.mk.injEq, and_true] at e
  obtain ⟨rfl, rfl⟩ := e
  exact hc

theorem Row.of {w : World} {b off : Nat} {zs : List Int} (h : ∀ i, i < zs.length → w.cell? ⟨b, off + i, none⟩ = some (.int .u8 (zs.getD i 0))) : Row w (some ⟨b, off, none⟩) zs :=
  fun i hi => ⟨b, off, rfl, h i hi⟩

/-- What lies in a block of the heap stays while other blocks are written and made. -/
theorem Row.grown {w w' : World} {row : Option Nat} {ao : Option Addr} {zs : List Int} (h : Row w ao zs) (hg : w.grownBy w' row) (hne : ∀ ad, ao = some ad → some ad.block ≠ row) : Row w' ao zs := by
  intro i hi
  obtain ⟨b, off, rfl, hc⟩ := h i hi
  exact ⟨b, off, rfl, hg.cell hc (hne ⟨b, off, none⟩ rfl)⟩

theorem Row.below {w w' : World} {ao : Option Addr} {zs : List Int} (h : Row w ao zs) (hb : Below w.heap.size w w') : Row w' ao zs := by
  intro i hi
  obtain ⟨b, off, rfl, hc⟩ := h i hi
  exact ⟨b, off, rfl, by rw [hb.cell (World.block_lt_of_cell? w _ hc)]; exact hc⟩

theorem Row.drewN {w : World} {ao : Option Addr} {zs : List Int} (h : Row w ao zs) (k : Nat) : Row (w.drewN k) ao zs := h

theorem below_drewN' (B : Nat) (w : World) (k : Nat) : Below B w (w.drewN k) := ⟨rfl, rfl, rfl, Nat.le_refl _, fun _ _ => rfl⟩

theorem bcell {W w1 : World} (hb : Below W.heap.size W w1) : (∀ b o, b < W.heap.size → w1.cell? ⟨b, o, none⟩ = W.cell? ⟨b, o, none⟩) ∧ (∀ b o, b < W.heap.size → w1.frozen? ⟨b, o, none⟩ = W.frozen? ⟨b, o, none⟩) :=
  ⟨fun b o h => hb.cell (p := ⟨b, o, none⟩) h, fun b o h => hb.frozen (p := ⟨b, o, none⟩) h⟩

/-- Out of an owned row. -/
theorem Row.owned {w : World} {base e g n cap : Nat} {zs : List Int} (h : w.ownsRow base e 1 (.slice (some ⟨g, 0, none⟩) n cap) n (zs.map (Value.int .u8))) : Row w (some ⟨g, 0, none⟩) zs := by
  have hl : n = zs.length := by have := h.1; simp at this; omega
  subst hl
  refine Row.of fun i hi => ?_
  rw [Nat.zero_add, h.cellAt i (by omega)]
  simp [List.getD, hi]

/-- The list that the copying loop has made after k rounds. -/
def copied (zs : List Int) (k : Nat) : List Int := zs.take k ++ List.replicate (zs.length - k) 0

theorem copied_len (zs : List Int) (k : Nat) (h : k ≤ zs.length) : (copied zs k).length = zs.length := by simp [copied]; omega
theorem copied_zero (zs : List Int) : copied zs 0 = List.replicate zs.length 0 := by simp [copied]
theorem copied_all (zs : List Int) : copied zs zs.length = zs := by simp [copied]
theorem copied_succ (zs : List Int) (k : Nat) (h : k < zs.length) : (copied zs k).set k (zs.getD k 0) = copied zs (k + 1) := by
  have e : zs.take (k + 1) = zs.take k ++ [zs.getD k 0] := by
    rw [List.take_succ_eq_append_getElem h]
    simp [List.getD, h]
  have e2 : zs.length - k = (zs.length - (k + 1)) + 1 := by omega
  unfold copied
  rw [e, e2, List.replicate_succ, List.set_append_right _ _ (by simp; omega)]
  simp [Nat.min_eq_left (Nat.le_of_lt h)]
theorem copied_map (zs : List Int) (k : Nat) (h : k < zs.length) : ((copied zs k).map (Value.int .u8)).set k (.int .u8 (zs.getD k 0)) = (copied zs (k + 1)).map (Value.int .u8) := by
  rw [← copied_succ zs k h, List.map_set]

/-- One byte written. -/
theorem Row.set {w : World} {b off : Nat} {zs : List Int} (h : Row w (some ⟨b, off, none⟩) zs) {k : Nat} (hk : k < zs.length) (x : Int) : Row (w.setCell ⟨b, off + k, none⟩ (.int .u8 x)) (some ⟨b, off, none⟩) (zs.set k x) := by
  obtain ⟨b', o', e, hc⟩ := h.at hk
  simp only [Option.some.injEq, Addr.mk.injEq, and_true] at e
  obtain ⟨rfl, rfl⟩ := e
  refine Row.of fun i hi => ?_
  rw [List.length_set] at hi
  by_cases hik : k = i
  · subst hik
    rw [World.cell?_setCell_same _ _ _ (hc k hk)]
    simp [List.getD, hi]
  · rw [World.cell?_setCell_other _ _ _ _ (by simp), hc i hi]
    simp [List.getD, hik]

/-- What marking has made after j rounds. -/
def marked (zs : List Int) (k j : Nat) : List Int := (List.range j).map (fun i => (((k + i : Nat) : Int)) % 256) ++ zs.drop j
theorem marked_len (zs : List Int) (k j : Nat) (h : j ≤ zs.length) : (marked zs k j).length = zs.length := by simp [marked]; omega
theorem marked_zero (zs : List Int) (k : Nat) : marked zs k 0 = zs := by simp [marked]
theorem marked_succ (zs : List Int) (k j : Nat) (h : j < zs.length) : (marked zs k j).set j ((((k + j : Nat) : Int)) % 256) = marked zs k (j + 1) := by
  have e : zs.drop j = zs[j] :: zs.drop (j + 1) := List.drop_eq_getElem_cons h
  unfold marked
  rw [List.set_append_right _ _ (by simp), List.range_succ, List.map_append, List.append_assoc]
  simp only [List.length_map, List.length_range, Nat.sub_self, e, List.set_cons_zero]
  rfl
/-- The marks. -/
def marks (k n : Nat) : List Int := (List.range n).map (fun i => (((k + i : Nat) : Int)) % 256)
theorem marked_all (zs : List Int) (k : Nat) : marked zs k zs.length = marks k zs.length := by simp [marked, marks]
theorem marks_len (k n : Nat) : (marks k n).length = n := by simp [marks]
theorem marks_getD (k n j : Nat) (h : j < n) : (marks k n).getD j 0 = (((k + j : Nat) : Int)) % 256 := by simp [marks, List.getD, h]

/-- The cells are the call's own: they may be written. -/
def Open (w : World) (ao : Option Addr) (n : Nat) : Prop := ∀ ad, ao = some ad → ∀ i, i < n → w.frozen? ⟨ad.block, ad.off + i, none⟩ = false

theorem Open.owned {w : World} {base e g n cap : Nat} {xs : List Value} (h : w.ownsRow base e 1 (.slice (some ⟨g, 0, none⟩) n cap) n xs) (m : Nat) : Open w (some ⟨g, 0, none⟩) m := by
  intro ad e i _
  simp only [Option.some.injEq] at e
  subst e
  exact h.frozenAt _
theorem Open.grown {w w' : World} {row : Option Nat} {ao : Option Addr} {zs : List Int} (h : Open w ao zs.length) (hr : Row w ao zs) (hg : w.grownBy w' row) (hne : ∀ ad, ao = some ad → some ad.block ≠ row) : Open w' ao zs.length := by
  intro ad e i hi
  subst e
  obtain ⟨b, off, e, hc⟩ := hr i hi
  simp only [Option.some.injEq] at e
  subst e
  rw [World.frozen?_of_block (w := w) (hg.block b (World.block_lt_of_cell? w _ hc) (hne ⟨b, off, none⟩ rfl))]
  exact h ⟨b, off, none⟩ rfl i hi

/-- The block of a slice's address. -/
def blk (ao : Option Addr) : Option Nat := ao.map (·.block)

theorem grownBy_trans {a b c : World} {r : Option Nat} (h : a.grownBy b r) (k : b.grownBy c r) : a.grownBy c r :=
  ⟨k.os.trans h.os, k.tape.trans h.tape, k.output.trans h.output, Nat.le_trans h.size k.size, fun i hi hne => (k.block i (Nat.lt_of_lt_of_le hi h.size) hne).trans (h.block i hi hne)⟩
theorem grownBy_setCell (w : World) (a : Addr) (v : Value) : w.grownBy (w.setCell a v) (some a.block) :=
  ⟨rfl, rfl, rfl, by simp, fun k _ hk => heap_setCell_other w a k v (fun e => hk (by rw [e]))⟩

theorem list_eq {za zb : List Int} (hl : za.length = zb.length) (h : ∀ j, j < za.length → za.getD j 0 = zb.getD j 0) : za = zb := by
  apply List.ext_getElem hl
  intro j h1 h2
  have := h j h1
  simpa [List.getD, h1, h2] using this

theorem retb {a b : Bool} (h : a = b) : Ending.returned (.bool a) = .returned (.bool b) := by rw [h]

end Go.Proofs.YtbddkkfakkedaaaGreatDoor
/-
  THE NUMBER OF A LIST OF BYTES, the first the lowest; its bits. No program.
-/
namespace Go.Proofs.YtbddkkfakkedaaaGreatDoor
open Go.RowKit

def bnum : List Int → Nat
  | [] => 0
  | z :: r => z.toNat + 256 * bnum r

theorem bnum_lt (zs : List Int) (h : Octets zs) : bnum zs < 256 ^ zs.length := by
  induction zs with
  | nil => decide
  | cons z r ih =>
    have h1 := h z (List.mem_cons_self)
    have h2 := ih (fun x hx => h x (List.mem_cons_of_mem _ hx))
    simp only [bnum, List.length_cons, Nat.pow_succ]
    omega

theorem bnum_append (xs ys : List Int) : bnum (xs ++ ys) = bnum xs + 256 ^ xs.length * bnum ys := by
  induction xs with
  | nil => simp [bnum]
  | cons z r ih =>
    simp only [List.cons_append, bnum, ih, List.length_cons, Nat.pow_succ]
    rw [Nat.mul_add, ← Nat.mul_assoc, Nat.mul_comm 256 (256 ^ r.length), Nat.add_assoc]

theorem Octets.take {zs : List Int} (h : Octets zs) (k : Nat) : Octets (zs.take k) := fun x hx => h x (List.mem_of_mem_take hx)
theorem Octets.drop {zs : List Int} (h : Octets zs) (k : Nat) : Octets (zs.drop k) := fun x hx => h x (List.mem_of_mem_drop hx)

theorem bnum_take_succ (zs : List Int) (k : Nat) (h : k < zs.length) : bnum (zs.take (k + 1)) = bnum (zs.take k) + (zs.getD k 0).toNat * 256 ^ k := by
  have e : zs.take (k + 1) = zs.take k ++ [zs.getD k 0] := by
    rw [List.take_succ_eq_append_getElem h]
    simp [List.getD, h]
  rw [e, bnum_append]
  simp [bnum, Nat.min_eq_left (Nat.le_of_lt h), Nat.mul_comm]

theorem two56 (k : Nat) : (256 : Nat) ^ k = 2 ^ (8 * k) := by
  rw [Nat.pow_mul]

/-- What lies below the first k bytes is told by them alone. -/
theorem bnum_low (zs : List Int) (k s n : Nat) (h : s + n ≤ 8 * k) : bnum (zs.take k) / 2 ^ s % 2 ^ n = bnum zs / 2 ^ s % 2 ^ n := by
  have e : bnum zs = bnum (zs.take k) + 256 ^ (zs.take k).length * bnum (zs.drop k) := by
    conv => lhs; rw [← List.take_append_drop k zs]
    exact bnum_append _ _
  by_cases hk : k ≤ zs.length
  · have hl : (zs.take k).length = k := by rw [List.length_take]; omega
    rw [e, hl, two56, show 8 * k = s + (8 * k - s) by omega, Nat.pow_add, Nat.mul_assoc, Nat.add_mul_div_left _ _ (Nat.two_pow_pos s),
      show 8 * k - s = n + (8 * k - s - n) by omega, Nat.pow_add, Nat.mul_assoc, Nat.add_mul_mod_self_left]
  · rw [List.take_of_length_le (by omega)]

/-- Bit j of a list of bytes. -/
theorem bnum_bit (zs : List Int) (hz : Octets zs) (j : Nat) : (zs.getD (j / 8) 0).toNat / 2 ^ (j % 8) % 2 = bnum zs / 2 ^ j % 2 := by
  induction zs generalizing j with
  | nil => simp [bnum]
  | cons z r ih =>
    have h1 := hz z (List.mem_cons_self)
    have h2 : Octets r := fun x hx => hz x (List.mem_cons_of_mem _ hx)
    by_cases hj : j < 8
    · have e0 : j / 8 = 0 := by omega
      have e1 : j % 8 = j := by omega
      rw [e0, e1]
      have := bnum_low (z :: r) 1 j 1 (by omega)
      simp only [List.take_succ_cons, List.take_zero, bnum, Nat.mul_zero, Nat.add_zero, Nat.pow_one] at this
      simpa [bnum] using this
    · obtain ⟨i, rfl⟩ : ∃ i, j = i + 8 := ⟨j - 8, by omega⟩
      have e0 : (i + 8) / 8 = i / 8 + 1 := by omega
      have e1 : (i + 8) % 8 = i % 8 := by omega
      rw [e0, e1]
      have hz0 : z.toNat < 256 := by omega
      have e2 : (z.toNat + 256 * bnum r) / 2 ^ (i + 8) = bnum r / 2 ^ i := by
        rw [Nat.pow_add, Nat.mul_comm (2 ^ i), ← Nat.div_div_eq_div_mul]
        congr 1
        show (z.toNat + 256 * bnum r) / 256 = bnum r
        omega
      simp only [bnum]
      rw [e2, ← ih h2 i]
      simp [List.getD]

/-- One bit more at the lowest place. -/
theorem mod_succ (M m : Nat) : M % 2 ^ (m + 1) = 2 * (M / 2 % 2 ^ m) + M % 2 := by
  rw [Nat.pow_succ, Nat.mul_comm (2 ^ m) 2, Nat.mod_mul]
  omega

/-- The number of n bits from bit s on. -/
def field (N s n : Nat) : Nat := N / 2 ^ s % 2 ^ n
theorem field_succ (N s m : Nat) : field N s (m + 1) = 2 * field N (s + 1) m + N / 2 ^ s % 2 := by
  unfold field
  rw [mod_succ, Nat.div_div_eq_div_mul, ← Nat.pow_succ]
theorem field_zero (N s : Nat) : field N s 0 = 0 := by unfold field; rw [Nat.pow_zero, Nat.mod_one]
theorem field_lt (N s n : Nat) : field N s n < 2 ^ n := Nat.mod_lt _ (Nat.two_pow_pos n)

theorem pow_int (m : Nat) : ((2 : Int) ^ m) = ((2 ^ m : Nat) : Int) := by simp

/-- One byte more, above the others. -/
theorem word_or (y k : Nat) (x : Int) (hy : y < 256 ^ k) (hk : k ≤ 4) (x0 : 0 ≤ x) (x1 : x ≤ 255) : bits .or .u64 (y : Int) (IntKind.u64.wrap (x * 2 ^ (8 * k))) = ((y + x.toNat * 256 ^ k : Nat) : Int) := by
  obtain ⟨X, rfl⟩ := Int.eq_ofNat_of_zero_le x0
  rw [Int.toNat_natCast, two56] at *
  have hp : (2 : Nat) ^ (8 * k) ≤ 2 ^ 32 := Nat.pow_le_pow_right (by decide) (by omega)
  have hX : X * 2 ^ (8 * k) ≤ 255 * 2 ^ 32 := Nat.mul_le_mul (by omega) hp
  have e : (X : Int) * 2 ^ (8 * k) = ((X * 2 ^ (8 * k) : Nat) : Int) := by rw [pow_int]; simp
  rw [e]
  have hor : y ||| X * 2 ^ (8 * k) = y + X * 2 ^ (8 * k) := by
    have := Nat.two_pow_add_eq_or_of_lt (i := 8 * k) (b := y) hy X
    rw [Nat.mul_comm, Nat.or_comm, ← this, Nat.add_comm]
  generalize X * 2 ^ (8 * k) = Z at *
  have hw : IntKind.u64.wrap (Z : Int) = (Z : Int) := by rw [IntKind.wrap_u64]; omega
  rw [hw, u64_or_nat y Z (by omega) (by omega), hor]

/-- The lowest n bits behind s. -/
theorem word_and (Y s n : Nat) (hY : Y < 18446744073709551616) (hn : n ≤ 32) : bits .and .u64 ((Y : Int) / 2 ^ s) (IntKind.u64.wrap (IntKind.u64.wrap (2 ^ n) - 1)) = ((field Y s n : Nat) : Int) := by
  have e : (Y : Int) / 2 ^ s = ((Y / 2 ^ s : Nat) : Int) := by rw [pow_int]; simp
  have hp : (2 : Nat) ^ n ≤ 2 ^ 32 := Nat.pow_le_pow_right (by decide) hn
  have hp0 : 0 < (2 : Nat) ^ n := Nat.two_pow_pos n
  have hd : Y / 2 ^ s ≤ Y := Nat.div_le_self _ _
  unfold field
  rw [e, pow_int n, ← Nat.and_two_pow_sub_one_eq_mod]
  generalize (2 : Nat) ^ n = Q at *
  have hw : IntKind.u64.wrap (IntKind.u64.wrap (Q : Int) - 1) = ((Q - 1 : Nat) : Int) := by rw [IntKind.wrap_u64, IntKind.wrap_u64]; omega
  rw [hw, u64_and_nat _ _ (by omega) (by omega)]

end Go.Proofs.YtbddkkfakkedaaaGreatDoor
namespace Go.Proofs.YtbddkkfakkedaaaGreatDoor
open Go.RowKit

/-- ValidBits, of the length, At and Used. -/
def vld (n : Nat) (at_ used : Int) : Bool :=
  decide (0 ≤ at_ ∧ at_ ≤ 7 ∧ (at_ = 0 ∨ 0 < n) ∧ n ≤ 1000000 ∧ 0 ≤ used ∧ used ≤ 34359738368 ∧ used % 8 = at_)
theorem vld_true {n : Nat} {a u : Int} (h : 0 ≤ a ∧ a ≤ 7 ∧ (a = 0 ∨ 0 < n) ∧ n ≤ 1000000 ∧ 0 ≤ u ∧ u ≤ 34359738368 ∧ u % 8 = a) : true = vld n a u := (decide_eq_true h).symm
theorem vld_false {n : Nat} {a u : Int} (h : ¬ (0 ≤ a ∧ a ≤ 7 ∧ (a = 0 ∨ 0 < n) ∧ n ≤ 1000000 ∧ 0 ≤ u ∧ u ≤ 34359738368 ∧ u % 8 = a)) : false = vld n a u := (decide_eq_false h).symm
theorem vld_out {n : Nat} {a u : Int} (h : vld n a u = true) : 0 ≤ a ∧ a ≤ 7 ∧ (a = 0 ∨ 0 < n) ∧ n ≤ 1000000 ∧ 0 ≤ u ∧ u ≤ 34359738368 ∧ u % 8 = a := of_decide_eq_true h


end Go.Proofs.YtbddkkfakkedaaaGreatDoor
namespace Go.Proofs.YtbddkkfakkedaaaGreatDoor
open Go.RowKit
set_option linter.unusedVariables false

end Go.Proofs.YtbddkkfakkedaaaGreatDoor
namespace Go.Proofs.YtbddkkfakkedaaaGreatDoor
open Go.RowKit

theorem Tryz.info_u8 : (Tryz.prog.info? 5).map (fun i => (i.zero, i.size, i.bytes)) = some (some (.int .u8 0), 1, 1) := by kernel_rfl

end Go.Proofs.YtbddkkfakkedaaaGreatDoor
