import Derived.WalkKit
import Derived.WalkSpells
import Derived.Deep.Draws
import Derived.Laws.BitsAllLaws
import Derived.Test.YtlfabilmilkboaaGreatDoorProg
import Derived.WalkLawsBesides
import Derived.Deep.QuietTactic
import Derived.BigQuiet
/-
  BYTES IN MEMORY: what a slice of bytes reads as, and what stays when other blocks are made or written. No program.
-/
namespace Go.Proofs.YtlfabilmilkboaaGreatDoor
open Go.RowKit

/-- From 'ao' on lie the bytes zs. -/
def Row (w : World) (ao : Option Addr) (zs : List Int) : Prop :=
  ∀ i, i < zs.length → ∃ b off, ao = some ⟨b, off, none⟩ ∧ w.cell? ⟨b, off + i, none⟩ = some (.int .u8 (zs.getD i 0))

/-- Each is a byte. -/
def Octets (zs : List Int) : Prop := ∀ z ∈ zs, 0 ≤ z ∧ z ≤ 255

theorem Octets.getD {zs : List Int} (h : Octets zs) (i : Nat) : 0 ≤ zs.getD i 0 ∧ zs.getD i 0 ≤ 255 := by
  by_cases hi : i < zs.length
  · have : zs.getD i 0 = zs[i] := by simp [List.getD, hi]
    rw [this]
    exact h _ (List.getElem_mem hi)
  · have : zs.getD i 0 = 0 := by simp [List.getD, hi]
    rw [this]; decide

theorem Row.nil (w : World) (ao : Option Addr) : Row w ao [] := fun i hi => absurd hi (by simp)

theorem Row.at {w : World} {ao : Option Addr} {zs : List Int} (h : Row w ao zs) {k : Nat} (hk : k < zs.length) :
    ∃ b off, ao = some ⟨b, off, none⟩ ∧ ∀ i, i < zs.length → w.cell? ⟨b, off + i, none⟩ = some (.int .u8 (zs.getD i 0)) := by
  obtain ⟨b, off, rfl, _⟩ := h k hk
  refine ⟨b, off, rfl, fun i hi => ?_⟩
  obtain ⟨b', off', e, hc⟩ := h i hi
  simp only [Option.some.injEq, Addr.mk.injEq, and_true] at e
  obtain ⟨rfl, rfl⟩ := e
  exact hc

theorem Row.of {w : World} {b off : Nat} {zs : List Int} (h : ∀ i, i < zs.length → w.cell? ⟨b, off + i, none⟩ = some (.int .u8 (zs.getD i 0))) : Row w (some ⟨b, off, none⟩) zs :=
  fun i hi => ⟨b, off, rfl, h i hi⟩

/-- What lies in a block of the heap stays while other blocks are written and made. -/
theorem Row.grown {w w' : World} {row : Option Nat} {ao : Option Addr} {zs : List Int} (h : Row w ao zs) (hg : w.grownBy w' row) (hne : ∀ ad, ao = some ad → some ad.block ≠ row) : Row w' ao zs := by
  intro i hi
  obtain ⟨b, off, rfl, hc⟩ := h i hi
  exact ⟨b, off, rfl, hg.cell hc (hne ⟨b, off, none⟩ rfl)⟩

theorem Row.below {w w' : World} {ao : Option Addr} {zs : List Int} (h : Row w ao zs) (hb : Below w.heap.size w w') : Row w' ao zs := by
  intro i hi
  obtain ⟨b, off, rfl, hc⟩ := h i hi
  exact ⟨b, off, rfl, by rw [hb.cell (World.block_lt_of_cell? w _ hc)]; exact hc⟩

theorem Row.drewN {w : World} {ao : Option Addr} {zs : List Int} (h : Row w ao zs) (k : Nat) : Row (w.drewN k) ao zs := h

theorem below_drewN' (B : Nat) (w : World) (k : Nat) : Below B w (w.drewN k) := ⟨rfl, rfl, rfl, Nat.le_refl _, fun _ _ => rfl⟩

theorem bcell {W w1 : World} (hb : Below W.heap.size W w1) : (∀ b o, b < W.heap.size → w1.cell? ⟨b, o, none⟩ = W.cell? ⟨b, o, none⟩) ∧ (∀ b o, b < W.heap.size → w1.frozen? ⟨b, o, none⟩ = W.frozen? ⟨b, o, none⟩) :=
  ⟨fun b o h => hb.cell (p := ⟨b, o, none⟩) h, fun b o h => hb.frozen (p := ⟨b, o, none⟩) h⟩

/-- Out of an owned row. -/
theorem Row.owned {w : World} {base e g n cap : Nat} {zs : List Int} (h : w.ownsRow base e 1 (.slice (some ⟨g, 0, none⟩) n cap) n (zs.map (Value.int .u8))) : Row w (some ⟨g, 0, none⟩) zs := by
  have hl : n = zs.length := by have := h.1; simp at this; omega
  subst hl
  refine Row.of fun i hi => ?_
  rw [Nat.zero_add, h.cellAt i (by omega)]
  simp [List.getD, hi]

/-- The list that the copying loop has made after k rounds. -/
def copied (zs : List Int) (k : Nat) : List Int := zs.take k ++ List.replicate (zs.length - k) 0

theorem copied_len (zs : List Int) (k : Nat) (h : k ≤ zs.length) : (copied zs k).length = zs.length := by simp [copied]; omega
theorem copied_zero (zs : List Int) : copied zs 0 = List.replicate zs.length 0 := by simp [copied]
theorem copied_all (zs : List Int) : copied zs zs.length = zs := by simp [copied]
theorem copied_succ (zs : List Int) (k : Nat) (h : k < zs.length) : (copied zs k).set k (zs.getD k 0) = copied zs (k + 1) := by
  have e : zs.take (k + 1) = zs.take k ++ [zs.getD k 0] := by
    rw [List.take_succ_eq_append_getElem h]
    simp [List.getD, h]
  have e2 : zs.length - k = (zs.length - (k + 1)) + 1 := by omega
  unfold copied
  rw [e, e2, List.replicate_succ, List.set_append_right _ _ (by simp; omega)]
  simp [Nat.min_eq_left (Nat.le_of_lt h)]
theorem copied_map (zs : List Int) (k : Nat) (h : k < zs.length) : ((copied zs k).map (Value.int .u8)).set k (.int .u8 (zs.getD k 0)) = (copied zs (k + 1)).map (Value.int .u8) := by
  rw [← copied_succ zs k h, List.map_set]

/-- One byte written. -/
theorem Row.set {w : World} {b off : Nat} {zs : List Int} (h : Row w (some ⟨b, off, none⟩) zs) {k : Nat} (hk : k < zs.length) (x : Int) : Row (w.setCell ⟨b, off + k, none⟩ (.int .u8 x)) (some ⟨b, off, none⟩) (zs.set k x) := by
  obtain ⟨b', o', e, hc⟩ := h.at hk
  simp only [Option.some.injEq, Addr.mk.injEq, and_true] at e
  obtain ⟨rfl, rfl⟩ := e
  refine Row.of fun i hi => ?_
  rw [List.length_set] at hi
  by_cases hik : k = i
  · subst hik
    rw [World.cell?_setCell_same _ _ _ (hc k hk)]
    simp [List.getD, hi]
  · rw [World.cell?_setCell_other _ _ _ _ (by simp), hc i hi]
    simp [List.getD, hik]

/-- What marking has made after j rounds. -/
def marked (zs : List Int) (k j : Nat) : List Int := (List.range j).map (fun i => (((k + i : Nat) : Int)) % 256) ++ zs.drop j
theorem marked_len (zs : List Int) (k j : Nat) (h : j ≤ zs.length) : (marked zs k j).length = zs.length := by simp [marked]; omega
theorem marked_zero (zs : List Int) (k : Nat) : marked zs k 0 = zs := by simp [marked]
theorem marked_succ (zs : List Int) (k j : Nat) (h : j < zs.length) : (marked zs k j).set j ((((k + j : Nat) : Int)) % 256) = marked zs k (j + 1) := by
  have e : zs.drop j = zs[j] :: zs.drop (j + 1) := List.drop_eq_getElem_cons h
  unfold marked
  rw [List.set_append_right _ _ (by simp), List.range_succ, List.map_append, List.append_assoc]
  simp only [List.length_map, List.length_range, Nat.sub_self, e, List.set_cons_zero]
  rfl
/-- The marks. -/
def marks (k n : Nat) : List Int := (List.range n).map (fun i => (((k + i : Nat) : Int)) % 256)
theorem marked_all (zs : List Int) (k : Nat) : marked zs k zs.length = marks k zs.length := by simp [marked, marks]
theorem marks_len (k n : Nat) : (marks k n).length = n := by simp [marks]
theorem marks_getD (k n j : Nat) (h : j < n) : (marks k n).getD j 0 = (((k + j : Nat) : Int)) % 256 := by simp [marks, List.getD, h]

/-- The cells are the call's own: they may be written. -/
def Open (w : World) (ao : Option Addr) (n : Nat) : Prop := ∀ ad, ao = some ad → ∀ i, i < n → w.frozen? ⟨ad.block, ad.off + i, none⟩ = false

theorem Open.owned {w : World} {base e g n cap : Nat} {xs : List Value} (h : w.ownsRow base e 1 (.slice (some ⟨g, 0, none⟩) n cap) n xs) (m : Nat) : Open w (some ⟨g, 0, none⟩) m := by
  intro ad e i _
  simp only [Option.some.injEq] at e
  subst e
  exact h.frozenAt _
theorem Open.grown {w w' : World} {row : Option Nat} {ao : Option Addr} {zs : List Int} (h : Open w ao zs.length) (hr : Row w ao zs) (hg : w.grownBy w' row) (hne : ∀ ad, ao = some ad → some ad.block ≠ row) : Open w' ao zs.length := by
  intro ad e i hi
  subst e
  obtain ⟨b, off, e, hc⟩ := hr i hi
  simp only [Option.some.injEq] at e
  subst e
  rw [World.frozen?_of_block (w := w) (hg.block b (World.block_lt_of_cell? w _ hc) (hne ⟨b, off, none⟩ rfl))]
  exact h ⟨b, off, none⟩ rfl i hi

/-- The block of a slice's address. -/
def blk (ao : Option Addr) : Option Nat := ao.map (·.block)

theorem grownBy_trans {a b c : World} {r : Option Nat} (h : a.grownBy b r) (k : b.grownBy c r) : a.grownBy c r :=
  ⟨k.os.trans h.os, k.tape.trans h.tape, k.output.trans h.output, Nat.le_trans h.size k.size, fun i hi hne => (k.block i (Nat.lt_of_lt_of_le hi h.size) hne).trans (h.block i hi hne)⟩
theorem grownBy_setCell (w : World) (a : Addr) (v : Value) : w.grownBy (w.setCell a v) (some a.block) :=
  ⟨rfl, rfl, rfl, by simp, fun k _ hk => heap_setCell_other w a k v (fun e => hk (by rw [e]))⟩

theorem list_eq {za zb : List Int} (hl : za.length = zb.length) (h : ∀ j, j < za.length → za.getD j 0 = zb.getD j 0) : za = zb := by
  apply List.ext_getElem hl
  intro j h1 h2
  have := h j h1
  simpa [List.getD, h1, h2] using this

theorem retb {a b : Bool} (h : a = b) : Ending.returned (.bool a) = .returned (.bool b) := by rw [h]

end Go.Proofs.YtlfabilmilkboaaGreatDoor
/-
  THE NUMBER OF A LIST OF BYTES, the first the lowest; its bits. No program.
-/
namespace Go.Proofs.YtlfabilmilkboaaGreatDoor
open Go.RowKit

def bnum : List Int → Nat
  | [] => 0
  | z :: r => z.toNat + 256 * bnum r

theorem bnum_lt (zs : List Int) (h : Octets zs) : bnum zs < 256 ^ zs.length := by
  induction zs with
  | nil => decide
  | cons z r ih =>
    have h1 := h z (List.mem_cons_self)
    have h2 := ih (fun x hx => h x (List.mem_cons_of_mem _ hx))
    simp only [bnum, List.length_cons, Nat.pow_succ]
    omega

theorem bnum_append (xs ys : List Int) : bnum (xs ++ ys) = bnum xs + 256 ^ xs.length * bnum ys := by
  induction xs with
  | nil => simp [bnum]
  | cons z r ih =>
    simp only [List.cons_append, bnum, ih, List.length_cons, Nat.pow_succ]
    rw [Nat.mul_add, ← Nat.mul_assoc, Nat.mul_comm 256 (256 ^ r.length), Nat.add_assoc]

theorem Octets.take {zs : List Int} (h : Octets zs) (k : Nat) : Octets (zs.take k) := fun x hx => h x (List.mem_of_mem_take hx)
theorem Octets.drop {zs : List Int} (h : Octets zs) (k : Nat) : Octets (zs.drop k) := fun x hx => h x (List.mem_of_mem_drop hx)

theorem bnum_take_succ (zs : List Int) (k : Nat) (h : k < zs.length) : bnum (zs.take (k + 1)) = bnum (zs.take k) + (zs.getD k 0).toNat * 256 ^ k := by
  have e : zs.take (k + 1) = zs.take k ++ [zs.getD k 0] := by
    rw [List.take_succ_eq_append_getElem h]
    simp [List.getD, h]
  rw [e, bnum_append]
  simp [bnum, Nat.min_eq_left (Nat.le_of_lt h), Nat.mul_comm]

theorem two56 (k : Nat) : (256 : Nat) ^ k = 2 ^ (8 * k) := by
  rw [Nat.pow_mul]

/-- What lies below the first k bytes is told by them alone. -/
theorem bnum_low (zs : List Int) (k s n : Nat) (h : s + n ≤ 8 * k) : bnum (zs.take k) / 2 ^ s % 2 ^ n = bnum zs / 2 ^ s % 2 ^ n := by
  have e : bnum zs = bnum (zs.take k) + 256 ^ (zs.take k).length * bnum (zs.drop k) := by
    conv => lhs; rw [← List.take_append_drop k zs]
    exact bnum_append _ _
  by_cases hk : k ≤ zs.length
  · have hl : (zs.take k).length = k := by rw [List.length_take]; omega
    rw [e, hl, two56, show 8 * k = s + (8 * k - s) by omega, Nat.pow_add, Nat.mul_assoc, Nat.add_mul_div_left _ _ (Nat.two_pow_pos s),
      show 8 * k - s = n + (8 * k - s - n) by omega, Nat.pow_add, Nat.mul_assoc, Nat.add_mul_mod_self_left]
  · rw [List.take_of_length_le (by omega)]

/-- Bit j of a list of bytes. -/
theorem bnum_bit (zs : List Int) (hz : Octets zs) (j : Nat) : (zs.getD (j / 8) 0).toNat / 2 ^ (j % 8) % 2 = bnum zs / 2 ^ j % 2 := by
  induction zs generalizing j with
  | nil => simp [bnum]
  | cons z r ih =>
    have h1 := hz z (List.mem_cons_self)
    have h2 : Octets r := fun x hx => hz x (List.mem_cons_of_mem _ hx)
    by_cases hj : j < 8
    · have e0 : j / 8 = 0 := by omega
      have e1 : j % 8 = j := by omega
      rw [e0, e1]
      have := bnum_low (z :: r) 1 j 1 (by omega)
      simp only [List.take_succ_cons, List.take_zero, bnum, Nat.mul_zero, Nat.add_zero, Nat.pow_one] at this
      simpa [bnum] using this
    · obtain ⟨i, rfl⟩ : ∃ i, j = i + 8 := ⟨j - 8, by omega⟩
      have e0 : (i + 8) / 8 = i / 8 + 1 := by omega
      have e1 : (i + 8) % 8 = i % 8 := by omega
      rw [e0, e1]
      have hz0 : z.toNat < 256 := by omega
      have e2 : (z.toNat + 256 * bnum r) / 2 ^ (i + 8) = bnum r / 2 ^ i := by
        rw [Nat.pow_add, Nat.mul_comm (2 ^ i), ← Nat.div_div_eq_div_mul]
        congr 1
        show (z.toNat + 256 * bnum r) / 256 = bnum r
        omega
      simp only [bnum]
      rw [e2, ← ih h2 i]
      simp [List.getD]

/-- One bit more at the lowest place. -/
theorem mod_succ (M m : Nat) : M % 2 ^ (m + 1) = 2 * (M / 2 % 2 ^ m) + M % 2 := by
  rw [Nat.pow_succ, Nat.mul_comm (2 ^ m) 2, Nat.mod_mul]
  omega

/-- The number of n bits from bit s on. -/
def field (N s n : Nat) : Nat := N / 2 ^ s % 2 ^ n
theorem field_succ (N s m : Nat) : field N s (m + 1) = 2 * field N (s + 1) m + N / 2 ^ s % 2 := by
  unfold field
  rw [mod_succ, Nat.div_div_eq_div_mul, ← Nat.pow_succ]
theorem field_zero (N s : Nat) : field N s 0 = 0 := by unfold field; rw [Nat.pow_zero, Nat.mod_one]
theorem field_lt (N s n : Nat) : field N s n < 2 ^ n := Nat.mod_lt _ (Nat.two_pow_pos n)

theorem pow_int (m : Nat) : ((2 : Int) ^ m) = ((2 ^ m : Nat) : Int) := by simp

/-- One byte more, above the others. -/
theorem word_or (y k : Nat) (x : Int) (hy : y < 256 ^ k) (hk : k ≤ 4) (x0 : 0 ≤ x) (x1 : x ≤ 255) : bits .or .u64 (y : Int) (IntKind.u64.wrap (x * 2 ^ (8 * k))) = ((y + x.toNat * 256 ^ k : Nat) : Int) := by
  obtain ⟨X, rfl⟩ := Int.eq_ofNat_of_zero_le x0
  rw [Int.toNat_natCast, two56] at *
  have hp : (2 : Nat) ^ (8 * k) ≤ 2 ^ 32 := Nat.pow_le_pow_right (by decide) (by omega)
  have hX : X * 2 ^ (8 * k) ≤ 255 * 2 ^ 32 := Nat.mul_le_mul (by omega) hp
  have e : (X : Int) * 2 ^ (8 * k) = ((X * 2 ^ (8 * k) : Nat) : Int) := by rw [pow_int]; simp
  rw [e]
  have hor : y ||| X * 2 ^ (8 * k) = y + X * 2 ^ (8 * k) := by
    have := Nat.two_pow_add_eq_or_of_lt (i := 8 * k) (b := y) hy X
    rw [Nat.mul_comm, Nat.or_comm, ← this, Nat.add_comm]
  generalize X * 2 ^ (8 * k) = Z at *
  have hw : IntKind.u64.wrap (Z : Int) = (Z : Int) := by rw [IntKind.wrap_u64]; omega
  rw [hw, u64_or_nat y Z (by omega) (by omega), hor]

/-- The lowest n bits behind s. -/
theorem word_and (Y s n : Nat) (hY : Y < 18446744073709551616) (hn : n ≤ 32) : bits .and .u64 ((Y : Int) / 2 ^ s) (IntKind.u64.wrap (IntKind.u64.wrap (2 ^ n) - 1)) = ((field Y s n : Nat) : Int) := by
  have e : (Y : Int) / 2 ^ s = ((Y / 2 ^ s : Nat) : Int) := by rw [pow_int]; simp
  have hp : (2 : Nat) ^ n ≤ 2 ^ 32 := Nat.pow_le_pow_right (by decide) hn
  have hp0 : 0 < (2 : Nat) ^ n := Nat.two_pow_pos n
  have hd : Y / 2 ^ s ≤ Y := Nat.div_le_self _ _
  unfold field
  rw [e, pow_int n, ← Nat.and_two_pow_sub_one_eq_mod]
  generalize (2 : Nat) ^ n = Q at *
  have hw : IntKind.u64.wrap (IntKind.u64.wrap (Q : Int) - 1) = ((Q - 1 : Nat) : Int) := by rw [IntKind.wrap_u64, IntKind.wrap_u64]; omega
  rw [hw, u64_and_nat _ _ (by omega) (by omega)]

end Go.Proofs.YtlfabilmilkboaaGreatDoor
namespace Go.Proofs.YtlfabilmilkboaaGreatDoor
open Go.RowKit

/-- ValidBits, of the length, At and Used. -/
def vld (n : Nat) (at_ used : Int) : Bool :=
  decide (0 ≤ at_ ∧ at_ ≤ 7 ∧ (at_ = 0 ∨ 0 < n) ∧ n ≤ 1000000 ∧ 0 ≤ used ∧ used ≤ 34359738368 ∧ used % 8 = at_)
theorem vld_true {n : Nat} {a u : Int} (h : 0 ≤ a ∧ a ≤ 7 ∧ (a = 0 ∨ 0 < n) ∧ n ≤ 1000000 ∧ 0 ≤ u ∧ u ≤ 34359738368 ∧ u % 8 = a) : true = vld n a u := (decide_eq_true h).symm
theorem vld_false {n : Nat} {a u : Int} (h : ¬ (0 ≤ a ∧ a ≤ 7 ∧ (a = 0 ∨ 0 < n) ∧ n ≤ 1000000 ∧ 0 ≤ u ∧ u ≤ 34359738368 ∧ u % 8 = a)) : false = vld n a u := (decide_eq_false h).symm
theorem vld_out {n : Nat} {a u : Int} (h : vld n a u = true) : 0 ≤ a ∧ a ≤ 7 ∧ (a = 0 ∨ 0 < n) ∧ n ≤ 1000000 ∧ 0 ≤ u ∧ u ≤ 34359738368 ∧ u % 8 = a := of_decide_eq_true h


end Go.Proofs.YtlfabilmilkboaaGreatDoor
namespace Go.Proofs.YtlfabilmilkboaaGreatDoor
open Go.RowKit
set_option linter.unusedVariables false

end Go.Proofs.YtlfabilmilkboaaGreatDoor
namespace Go.Proofs.YtlfabilmilkboaaGreatDoor
open Go.RowKit

/-- From 'ao' on lie the numbers zs. -/
def Row64 (w : World) (ao : Option Addr) (zs : List Int) : Prop :=
  ∀ i, i < zs.length → ∃ b off, ao = some ⟨b, off, none⟩ ∧ w.cell? ⟨b, off + i, none⟩ = some (.int .i64 (zs.getD i 0))
theorem Row64.nil (w : World) (ao : Option Addr) : Row64 w ao [] := fun i hi => absurd hi (by simp)
theorem Row64.at {w : World} {ao : Option Addr} {zs : List Int} (h : Row64 w ao zs) {k : Nat} (hk : k < zs.length) :
    ∃ b off, ao = some ⟨b, off, none⟩ ∧ ∀ i, i < zs.length → w.cell? ⟨b, off + i, none⟩ = some (.int .i64 (zs.getD i 0)) := by
  obtain ⟨b, off, rfl, _⟩ := h k hk
  refine ⟨b, off, rfl, fun i hi => ?_⟩
  obtain ⟨b', off', e, hc⟩ := h i hi
  simp only [Option.some.injEq, Addr.mk.injEq, and_true] at e
  obtain ⟨rfl, rfl⟩ := e
  exact hc
theorem Row64.of {w : World} {b off : Nat} {zs : List Int} (h : ∀ i, i < zs.length → w.cell? ⟨b, off + i, none⟩ = some (.int .i64 (zs.getD i 0))) : Row64 w (some ⟨b, off, none⟩) zs :=
  fun i hi => ⟨b, off, rfl, h i hi⟩
theorem Row64.grown {w w' : World} {row : Option Nat} {ao : Option Addr} {zs : List Int} (h : Row64 w ao zs) (hg : w.grownBy w' row) (hne : ∀ ad, ao = some ad → some ad.block ≠ row) : Row64 w' ao zs := by
  intro i hi
  obtain ⟨b, off, rfl, hc⟩ := h i hi
  exact ⟨b, off, rfl, hg.cell hc (hne ⟨b, off, none⟩ rfl)⟩
theorem Row64.below {w w' : World} {ao : Option Addr} {zs : List Int} (h : Row64 w ao zs) (hb : Below w.heap.size w w') : Row64 w' ao zs := by
  intro i hi
  obtain ⟨b, off, rfl, hc⟩ := h i hi
  exact ⟨b, off, rfl, by rw [hb.cell (World.block_lt_of_cell? w _ hc)]; exact hc⟩
theorem Row64.drewN {w : World} {ao : Option Addr} {zs : List Int} (h : Row64 w ao zs) (k : Nat) : Row64 (w.drewN k) ao zs := h
theorem Row64.owned {w : World} {base e g n cap : Nat} {zs : List Int} (h : w.ownsRow base e 1 (.slice (some ⟨g, 0, none⟩) n cap) n (zs.map (Value.int .i64))) : Row64 w (some ⟨g, 0, none⟩) zs := by
  have hl : n = zs.length := by have := h.1; simp at this; omega
  subst hl
  refine Row64.of fun i hi => ?_
  rw [Nat.zero_add, h.cellAt i (by omega)]
  simp [List.getD, hi]
theorem copied_map64 (zs : List Int) (k : Nat) (h : k < zs.length) : ((copied zs k).map (Value.int .i64)).set k (.int .i64 (zs.getD k 0)) = (copied zs (k + 1)).map (Value.int .i64) := by
  rw [← copied_succ zs k h, List.map_set]

end Go.Proofs.YtlfabilmilkboaaGreatDoor
namespace Go.Proofs.YtlfabilmilkboaaGreatDoor
open Go.RowKit

theorem Tryz.info_i64 : (Tryz.prog.info? 2).map (fun i => (i.zero, i.size, i.bytes)) = some (some (.int .i64 0), 1, 8) := by kernel_rfl

end Go.Proofs.YtlfabilmilkboaaGreatDoor
namespace Go.Proofs.YtlfabilmilkboaaGreatDoor
open Go.RowKit

theorem Tryz.info_u8 : (Tryz.prog.info? 5).map (fun i => (i.zero, i.size, i.bytes)) = some (some (.int .u8 0), 1, 1) := by kernel_rfl

/-- laws.toByteS. -/
theorem toByteS_any (ao : Option Addr) (cap : Nat) (zs : List Int) (w : World) (hr : Row w ao zs) (hn : zs.length ≤ 140737488355328) :
    Calls Tryz.prog 5 #[.slice ao zs.length cap] w fun e w' =>
      e = .returned (.slice (some ⟨w.heap.size, 0, none⟩) zs.length zs.length) ∧ w'.ownsRow w.heap.size 5 1 (.slice (some ⟨w.heap.size, 0, none⟩) zs.length zs.length) zs.length (zs.map (Value.int .u8)) ∧ Below w.heap.size w w' := by
  obtain ⟨i0, hi, hz0, hz1, hz2⟩ := info_parts Tryz.info_u8
  have hm : zs.length ≤ maxLen := by unfold maxLen; omega
  go_enter Tryz.func5, Tryz.ntmps5
  go_wp2_with (at_make; refine wpList_make_full _ rfl _ _ 22 rfl w.heap.size 5 i0 (.int .u8 0) 1 Tryz.underlying22 hi hz0 hz1 _ _ _ _ zs.length rfl rfl rfl rfl (by rw [hz2]; omega) hm (Nat.le_refl _) ?_)
  intro w1 hown hgrow
  rw [toList_madeCells_one] at hown
  rw [← List.map_replicate, ← copied_zero] at hown
  go_wp2_with fail
  go_loopw [4] (fun i wr => ∃ k : Nat, k ≤ zs.length ∧ i = .int .i64 k ∧ wr.ownsRow w.heap.size 5 1 (.slice (some ⟨w.heap.size, 0, none⟩) zs.length zs.length) zs.length ((copied zs k).map (Value.int .u8)) ∧ Below w.heap.size w wr) (fun i _ => zs.length - (intOf i).toNat)
  case atStart => exact ⟨0, Nat.zero_le _, rfl, hown, (Below.refl _ _).grown hgrow (Nat.le_refl _) (by simp)⟩
  case round =>
    clear hown hgrow
    obtain ⟨k, hk, rfl, hown, hbel⟩ := hrel
    by_cases hlt : k < zs.length
    · obtain ⟨b, off, rfl, hc⟩ := hr.at hlt
      have hb : b < w.heap.size := World.block_lt_of_cell? w _ (hc k hlt)
      have hcx : wr.cell? ⟨b, off + k, none⟩ = some (.int .u8 (zs.getD k 0)) := (hbel.cell (by exact hb)).trans (hc k hlt)
      have hfz := hown.frozenAt k
      have hco : ∃ u, wr.cell? ⟨w.heap.size, k, none⟩ = some u := by
        rw [hown.cellAt k (by omega)]
        exact ⟨_, List.getElem?_eq_getElem (by simp [copied_len zs k hk]; exact hlt)⟩
      obtain ⟨u, hcu⟩ := hco
      have hst := (hown.stored k (.int .u8 (zs.getD k 0))).1
      rw [copied_map zs k hlt] at hst
      have hbst := hbel.setCell (p := ⟨w.heap.size, k, none⟩) (Nat.le_refl _) (.int .u8 (zs.getD k 0))
      clear hc hown hr
      generalize zs.getD k 0 = x at *
      go_wp2_with fail
      go_roundw
      case rel => exact ⟨k + 1, by omega, by go_num, hst, hbst⟩
      case measure => simp [intOf]; omega
    · have e : k = zs.length := by omega
      subst e
      rw [copied_all] at hown
      go_wp2_with fail
      go_ret
      exact ⟨rfl, hown, hbel⟩

/-- laws.eqByteS. -/
theorem eqByteS_any (ao bo : Option Addr) (ca cb : Nat) (za zb : List Int) (w : World) (ha : Row w ao za) (hb : Row w bo zb) (hn : za.length ≤ 140737488355328) :
    Calls Tryz.prog 8 #[.slice ao za.length ca, .slice bo zb.length cb] w fun e w' => e = .returned (.bool (decide (za = zb))) ∧ ∃ q, w' = w.drewN q := by
  by_cases hl : za.length = zb.length
  · have hl' : ((za.length : Int) != (zb.length : Int)) = false := by simp [hl]
    have HL : Hid (za.length = zb.length) := hl
    clear hl
    go_enter Tryz.func8, Tryz.ntmps8
    go_wp2_with fail
    go_loopw [5] (fun i wr => ∃ k : Nat, k ≤ za.length ∧ i = .int .i64 k ∧ (∃ q, wr = w.drewN q) ∧ Hid (∀ j, j < k → za.getD j 0 = zb.getD j 0)) (fun i _ => za.length - (intOf i).toNat)
    case atStart => exact ⟨0, Nat.zero_le _, rfl, ⟨0, rfl⟩, fun j hj => absurd hj (by omega)⟩
    case round =>
      obtain ⟨k, hk, rfl, ⟨q, rfl⟩, HE⟩ := hrel
      by_cases hlt : k < za.length
      · have hltb : k < zb.length := by have := HL.out; omega
        obtain ⟨b1, o1, rfl, hc1⟩ := ha.at hlt
        obtain ⟨b2, o2, rfl, hc2⟩ := hb.at hltb
        have h1 := hc1 k hlt
        have h2 := hc2 k hltb
        clear hc1 hc2 ha hb
        by_cases he : za.getD k 0 = zb.getD k 0
        · have HN : Hid (∀ j, j < k + 1 → za.getD j 0 = zb.getD j 0) := by
            intro j hj
            rcases Nat.lt_succ_iff_lt_or_eq.1 hj with h | rfl
            · exact HE.out j h
            · exact he
          rw [← he] at h2
          generalize za.getD k 0 = x at *
          clear he HE
          go_wp2_with fail
          go_quiet (fail)
          go_wp2_with fail
          go_roundw
          case rel => exact ⟨k + 1, by omega, by go_num, ⟨_, rfl⟩, HN⟩
          case measure => simp [intOf]; omega
        · have hne : (za.getD k 0 != zb.getD k 0) = true := by simpa using he
          have hf : Hid (decide (za = zb) = false) := by
            show decide (za = zb) = false
            simp only [decide_eq_false_iff_not]
            intro h
            rw [h] at he
            exact he rfl
          generalize za.getD k 0 = x at *
          generalize zb.getD k 0 = y at *
          clear he HE
          go_wp2_with fail
          go_quiet (fail)
          go_wp2_with fail
          go_ret
          refine ⟨retb hf.out.symm, ?_⟩
          simp only [World.drewN_drewN]
          exact ⟨_, rfl⟩
      · have e : k = za.length := by omega
        have hf : Hid (decide (za = zb) = true) := by
          show decide (za = zb) = true
          rw [decide_eq_true_iff]
          refine list_eq HL.out (fun j hj => HE.out j (by omega))
        clear HE
        go_wp2_with fail
        go_ret
        exact ⟨retb hf.out.symm, q, rfl⟩
  · have hl' : ((za.length : Int) != (zb.length : Int)) = true := by simpa using (by omega : ¬ (za.length : Int) = zb.length)
    have hf : Hid (decide (za = zb) = false) := by
      show decide (za = zb) = false
      simp only [decide_eq_false_iff_not]
      intro h
      rw [h] at hl
      exact hl rfl
    clear hl
    go_enter Tryz.func8, Tryz.ntmps8
    go_wp2_with fail
    go_ret
    exact ⟨retb hf.out.symm, 0, rfl⟩

/-- laws.markByteS. -/
theorem markByteS_any (ao : Option Addr) (cap : Nat) (zs : List Int) (k : Nat) (w : World) (hr : Row w ao zs) (ho : Open w ao zs.length) (hn : zs.length ≤ 140737488355328) (hk : k ≤ 140737488355328) :
    Calls Tryz.prog 9 #[.slice ao zs.length cap, .int .i64 k] w fun e w' =>
      e = .returned (.int .i64 ((k + zs.length : Nat) : Int)) ∧ Row w' ao (marks k zs.length) ∧ Open w' ao zs.length ∧ w.grownBy w' (blk ao) ∧ w'.heap.size = w.heap.size := by
  go_enter Tryz.func9, Tryz.ntmps9
  go_wp2_with fail
  go_loopw [1, 5] (fun kk i wr => ∃ j : Nat, j ≤ zs.length ∧ kk = .int .i64 ((k + j : Nat) : Int) ∧ i = .int .i64 j ∧ Row wr ao (marked zs k j) ∧ Open wr ao zs.length ∧ w.grownBy wr (blk ao) ∧ wr.heap.size = w.heap.size) (fun _ i _ => zs.length - (intOf i).toNat)
  case atStart => exact ⟨0, Nat.zero_le _, rfl, rfl, by rw [marked_zero]; exact hr, ho, World.grownBy.refl _ _, rfl⟩
  case round =>
    clear hr ho
    obtain ⟨j, hj, rfl, rfl, hr, ho, hg, hz⟩ := hrel
    have hml := marked_len zs k j hj
    by_cases hlt : j < zs.length
    · obtain ⟨b, off, rfl, hc⟩ := hr.at (k := j) (by omega)
      have hcj := hc j (by omega)
      have hfj : wr.frozen? ⟨b, off + j, none⟩ = false := ho _ rfl j hlt
      have hr2 := hr.set (k := j) (by omega) ((((k + j : Nat) : Int)) % 256)
      rw [marked_succ zs k j hlt] at hr2
      have hg2 : w.grownBy (wr.setCell ⟨b, off + j, none⟩ (.int .u8 ((((k + j : Nat) : Int)) % 256))) (blk (some ⟨b, off, none⟩)) := grownBy_trans hg (grownBy_setCell wr ⟨b, off + j, none⟩ _)
      have ho2 : Open (wr.setCell ⟨b, off + j, none⟩ (.int .u8 ((((k + j : Nat) : Int)) % 256))) (some ⟨b, off, none⟩) zs.length := by
        intro ad e i hi
        rw [World.frozen?_setCell]
        exact ho ad e i hi
      clear hc hr ho hg hml
      generalize (marked zs k j).getD j 0 = x at *
      simp only [Int.natCast_add] at hr2 hg2 ho2
      have hz2 : (wr.setCell ⟨b, off + j, none⟩ (.int .u8 (((k : Int) + (j : Int)) % 256))).heap.size = w.heap.size := by simpa using hz
      clear hz
      go_wp2_with fail
      go_roundw
      case rel => exact ⟨j + 1, by omega, by go_num, by go_num, hr2, ho2, hg2, hz2⟩
      case measure => simp [intOf]; omega
    · have e : j = zs.length := by omega
      subst e
      rw [marked_all] at hr
      go_wp2_with fail
      go_ret
      exact ⟨by go_num, hr, ho, hg, hz⟩

/-- laws.heldByteS, at what markByteS has left. -/
theorem heldByteS_any (ao : Option Addr) (cap : Nat) (n k : Nat) (w : World) (hr : Row w ao (marks k n)) (hn : n ≤ 140737488355328) (hk : k ≤ 140737488355328) :
    Calls Tryz.prog 20 #[.slice ao n cap, .int .i64 k] w fun e w' => e = .returned (.int .i64 ((k + n : Nat) : Int)) ∧ w' = w := by
  go_enter Tryz.func20, Tryz.ntmps20
  go_wp2_with fail
  go_loop [1, 5] (fun kk i => ∃ j : Nat, j ≤ n ∧ kk = .int .i64 ((k + j : Nat) : Int) ∧ i = .int .i64 j) (fun _ i => n - (intOf i).toNat)
  case atStart => exact ⟨0, Nat.zero_le _, rfl, rfl⟩
  case round =>
    obtain ⟨j, hj, rfl, rfl⟩ := hrel
    by_cases hlt : j < n
    · obtain ⟨b, off, rfl, hc⟩ := hr.at (k := j) (by rw [marks_len]; exact hlt)
      have hcj := hc j (by rw [marks_len]; exact hlt)
      rw [marks_getD k n j hlt, Int.natCast_add] at hcj
      clear hc hr
      go_wp2_with fail
      go_round
      case rel => exact ⟨j + 1, by omega, by go_num, by go_num⟩
      case measure => simp [intOf]; omega
    · have e : j = n := by omega
      subst e
      clear hr
      go_wp2_with fail
      go_ret
      exact ⟨by go_num, rfl⟩
end Go.Proofs.YtlfabilmilkboaaGreatDoor
