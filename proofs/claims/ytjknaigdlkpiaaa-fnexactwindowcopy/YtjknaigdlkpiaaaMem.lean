/-
  BYTES IN MEMORY: what a slice of bytes reads as, and what stays when other blocks are made or written. No program.
-/
import Derived.WalkKit
import Derived.WalkSpells
import Derived.Deep.Draws
namespace Go.Proofs.Ytjknaigdlkpiaaa
open Go.RowKit

/-- From 'ao' on lie the bytes zs. -/
def Row (w : World) (ao : Option Addr) (zs : List Int) : Prop :=
  ∀ i, i < zs.length → ∃ b off, ao = some ⟨b, off, none⟩ ∧ w.cell? ⟨b, off + i, none⟩ = some (.int .u8 (zs.getD i 0))

/-- Each is a byte. -/
def Octets (zs : List Int) : Prop := ∀ z ∈ zs, 0 ≤ z ∧ z ≤ 255

theorem Octets.getD {zs : List Int} (h : Octets zs) (i : Nat) : 0 ≤ zs.getD i 0 ∧ zs.getD i 0 ≤ 255 := by
  by_cases hi : i < zs.length
  · have : zs.getD i 0 = zs[i] := by simp [List.getD, hi]
    rw [this]
    exact h _ (List.getElem_mem hi)
  · have : zs.getD i 0 = 0 := by simp [List.getD, hi]
    rw [this]; decide

theorem Row.nil (w : World) (ao : Option Addr) : Row w ao [] := fun i hi => absurd hi (by simp)

theorem Row.at {w : World} {ao : Option Addr} {zs : List Int} (h : Row w ao zs) {k : Nat} (hk : k < zs.length) :
    ∃ b off, ao = some ⟨b, off, none⟩ ∧ ∀ i, i < zs.length → w.cell? ⟨b, off + i, none⟩ = some (.int .u8 (zs.getD i 0)) := by
  obtain ⟨b, off, rfl, _⟩ := h k hk
  refine ⟨b, off, rfl, fun i hi => ?_⟩
  obtain ⟨b', off', e, hc⟩ := h i hi
  simp only [Option.some.injEq, Addr.mk.injEq, and_true] at e
  obtain ⟨rfl, rfl⟩ := e
  exact hc

theorem Row.of {w : World} {b off : Nat} {zs : List Int} (h : ∀ i, i < zs.length → w.cell? ⟨b, off + i, none⟩ = some (.int .u8 (zs.getD i 0))) : Row w (some ⟨b, off, none⟩) zs :=
  fun i hi => ⟨b, off, rfl, h i hi⟩

/-- What lies in a block of the heap stays while other blocks are written and made. -/
theorem Row.grown {w w' : World} {row : Option Nat} {ao : Option Addr} {zs : List Int} (h : Row w ao zs) (hg : w.grownBy w' row) (hne : ∀ ad, ao = some ad → some ad.block ≠ row) : Row w' ao zs := by
  intro i hi
  obtain ⟨b, off, rfl, hc⟩ := h i hi
  exact ⟨b, off, rfl, hg.cell hc (hne ⟨b, off, none⟩ rfl)⟩

theorem Row.below {w w' : World} {ao : Option Addr} {zs : List Int} (h : Row w ao zs) (hb : Below w.heap.size w w') : Row w' ao zs := by
  intro i hi
  obtain ⟨b, off, rfl, hc⟩ := h i hi
  exact ⟨b, off, rfl, by rw [hb.cell (World.block_lt_of_cell? w _ hc)]; exact hc⟩

theorem Row.drewN {w : World} {ao : Option Addr} {zs : List Int} (h : Row w ao zs) (k : Nat) : Row (w.drewN k) ao zs := h

theorem below_drewN' (B : Nat) (w : World) (k : Nat) : Below B w (w.drewN k) := ⟨rfl, rfl, rfl, Nat.le_refl _, fun _ _ => rfl⟩

theorem bcell {W w1 : World} (hb : Below W.heap.size W w1) : (∀ b o, b < W.heap.size → w1.cell? ⟨b, o, none⟩ = W.cell? ⟨b, o, none⟩) ∧ (∀ b o, b < W.heap.size → w1.frozen? ⟨b, o, none⟩ = W.frozen? ⟨b, o, none⟩) :=
  ⟨fun b o h => hb.cell (p := ⟨b, o, none⟩) h, fun b o h => hb.frozen (p := ⟨b, o, none⟩) h⟩

/-- Out of an owned row. -/
theorem Row.owned {w : World} {base e g n cap : Nat} {zs : List Int} (h : w.ownsRow base e 1 (.slice (some ⟨g, 0, none⟩) n cap) n (zs.map (Value.int .u8))) : Row w (some ⟨g, 0, none⟩) zs := by
  have hl : n = zs.length := by have := h.1; simp at this; omega
  subst hl
  refine Row.of fun i hi => ?_
  rw [Nat.zero_add, h.cellAt i (by omega)]
  simp [List.getD, hi]

/-- The list that the copying loop has made after k rounds. -/
def copied (zs : List Int) (k : Nat) : List Int := zs.take k ++ List.replicate (zs.length - k) 0

theorem copied_len (zs : List Int) (k : Nat) (h : k ≤ zs.length) : (copied zs k).length = zs.length := by simp [copied]; omega
theorem copied_zero (zs : List Int) : copied zs 0 = List.replicate zs.length 0 := by simp [copied]
theorem copied_all (zs : List Int) : copied zs zs.length = zs := by simp [copied]
theorem copied_succ (zs : List Int) (k : Nat) (h : k < zs.length) : (copied zs k).set k (zs.getD k 0) = copied zs (k + 1) := by
  have e : zs.take (k + 1) = zs.take k ++ [zs.getD k 0] := by
    rw [List.take_succ_eq_append_getElem h]
    simp [List.getD, h]
  have e2 : zs.length - k = (zs.length - (k + 1)) + 1 := by omega
  unfold copied
  rw [e, e2, List.replicate_succ, List.set_append_right _ _ (by simp; omega)]
  simp [Nat.min_eq_left (Nat.le_of_lt h)]
theorem copied_map (zs : List Int) (k : Nat) (h : k < zs.length) : ((copied zs k).map (Value.int .u8)).set k (.int .u8 (zs.getD k 0)) = (copied zs (k + 1)).map (Value.int .u8) := by
  rw [← copied_succ zs k h, List.map_set]

/-- One byte written. -/
theorem Row.set {w : World} {b off : Nat} {zs : List Int} (h : Row w (some ⟨b, off, none⟩) zs) {k : Nat} (hk : k < zs.length) (x : Int) : Row (w.setCell ⟨b, off + k, none⟩ (.int .u8 x)) (some ⟨b, off, none⟩) (zs.set k x) := by
  obtain ⟨b', o', e, hc⟩ := h.at hk
  simp only [Option.some.injEq, Addr.mk.injEq, and_true] at e
  obtain ⟨rfl, rfl⟩ := e
  refine Row.of fun i hi => ?_
  rw [List.length_set] at hi
  by_cases hik : k = i
  · subst hik
    rw [World.cell?_setCell_same _ _ _ (hc k hk)]
    simp [List.getD, hi]
  · rw [World.cell?_setCell_other _ _ _ _ (by simp), hc i hi]
    simp [List.getD, hik]

/-- What marking has made after j rounds. -/
def marked (zs : List Int) (k j : Nat) : List Int := (List.range j).map (fun i => (((k + i : Nat) : Int)) % 256) ++ zs.drop j
theorem marked_len (zs : List Int) (k j : Nat) (h : j ≤ zs.length) : (marked zs k j).length = zs.length := by simp [marked]; omega
theorem marked_zero (zs : List Int) (k : Nat) : marked zs k 0 = zs := by simp [marked]
theorem marked_succ (zs : List Int) (k j : Nat) (h : j < zs.length) : (marked zs k j).set j ((((k + j : Nat) : Int)) % 256) = marked zs k (j + 1) := by
  have e : zs.drop j = zs[j] :: zs.drop (j + 1) := List.drop_eq_getElem_cons h
  unfold marked
  rw [List.set_append_right _ _ (by simp), List.range_succ, List.map_append, List.append_assoc]
  simp only [List.length_map, List.length_range, Nat.sub_self, e, List.set_cons_zero]
  rfl
/-- The marks. -/
def marks (k n : Nat) : List Int := (List.range n).map (fun i => (((k + i : Nat) : Int)) % 256)
theorem marked_all (zs : List Int) (k : Nat) : marked zs k zs.length = marks k zs.length := by simp [marked, marks]
theorem marks_len (k n : Nat) : (marks k n).length = n := by simp [marks]
theorem marks_getD (k n j : Nat) (h : j < n) : (marks k n).getD j 0 = (((k + j : Nat) : Int)) % 256 := by simp [marks, List.getD, h]

/-- The cells are the call's own: they may be written. -/
def Open (w : World) (ao : Option Addr) (n : Nat) : Prop := ∀ ad, ao = some ad → ∀ i, i < n → w.frozen? ⟨ad.block, ad.off + i, none⟩ = false

theorem Open.owned {w : World} {base e g n cap : Nat} {xs : List Value} (h : w.ownsRow base e 1 (.slice (some ⟨g, 0, none⟩) n cap) n xs) (m : Nat) : Open w (some ⟨g, 0, none⟩) m := by
  intro ad e i _
  simp only [Option.some.injEq] at e
  subst e
  exact h.frozenAt _
theorem Open.grown {w w' : World} {row : Option Nat} {ao : Option Addr} {zs : List Int} (h : Open w ao zs.length) (hr : Row w ao zs) (hg : w.grownBy w' row) (hne : ∀ ad, ao = some ad → some ad.block ≠ row) : Open w' ao zs.length := by
  intro ad e i hi
  subst e
  obtain ⟨b, off, e, hc⟩ := hr i hi
  simp only [Option.some.injEq] at e
  subst e
  rw [World.frozen?_of_block (w := w) (hg.block b (World.block_lt_of_cell? w _ hc) (hne ⟨b, off, none⟩ rfl))]
  exact h ⟨b, off, none⟩ rfl i hi

/-- The block of a slice's address. -/
def blk (ao : Option Addr) : Option Nat := ao.map (·.block)

theorem grownBy_trans {a b c : World} {r : Option Nat} (h : a.grownBy b r) (k : b.grownBy c r) : a.grownBy c r :=
  ⟨k.os.trans h.os, k.tape.trans h.tape, k.output.trans h.output, Nat.le_trans h.size k.size, fun i hi hne => (k.block i (Nat.lt_of_lt_of_le hi h.size) hne).trans (h.block i hi hne)⟩
theorem grownBy_setCell (w : World) (a : Addr) (v : Value) : w.grownBy (w.setCell a v) (some a.block) :=
  ⟨rfl, rfl, rfl, by simp, fun k _ hk => heap_setCell_other w a k v (fun e => hk (by rw [e]))⟩

theorem list_eq {za zb : List Int} (hl : za.length = zb.length) (h : ∀ j, j < za.length → za.getD j 0 = zb.getD j 0) : za = zb := by
  apply List.ext_getElem hl
  intro j h1 h2
  have := h j h1
  simpa [List.getD, h1, h2] using this

theorem retb {a b : Bool} (h : a = b) : Ending.returned (.bool a) = .returned (.bool b) := by rw [h]

end Go.Proofs.Ytjknaigdlkpiaaa
