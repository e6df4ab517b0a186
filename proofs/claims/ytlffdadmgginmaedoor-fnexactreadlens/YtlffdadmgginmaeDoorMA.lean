import Derived.WalkKit
import Derived.WalkSpells
import Derived.Deep.Draws
import Derived.Maps.AppendAt
import Derived.Laws.AppendOwnNone
import Derived.RegionTactic
import Derived.Test.YtlffdadmgginmaeDoorProg
import Derived.WalkLawsBesides
import Derived.Deep.QuietTactic
import Derived.BigQuiet
import Derived.Laws.Pointers
import Derived.Deep.RegionHeld3
import Derived.Deep.DrawnRows
import Derived.Laws.BitsAllLaws
import Derived.Lib.MinMax
import Derived.LaidEql
import Derived.Stop.Asserts
import Derived.RowKitTokens
import Derived.Deep.MidRow
import Derived.Deep.CutRange
import Derived.Deep.RegionWith
/-
  BYTES IN MEMORY: what a slice of bytes reads as, and what stays when other blocks are made or written. No program.
-/
namespace Go.Proofs.YtlffdadmgginmaeDoor
open Go.RowKit

/-- From 'ao' on lie the bytes zs. -/
def Row (w : World) (ao : Option Addr) (zs : List Int) : Prop :=
  ∀ i, i < zs.length → ∃ b off, ao = some ⟨b, off, none⟩ ∧ w.cell? ⟨b, off + i, none⟩ = some (.int .u8 (zs.getD i 0))

/-- Each is a byte. -/
def Octets (zs : List Int) : Prop := ∀ z ∈ zs, 0 ≤ z ∧ z ≤ 255

theorem Octets.getD {zs : List Int} (h : Octets zs) (i : Nat) : 0 ≤ zs.getD i 0 ∧ zs.getD i 0 ≤ 255 := by
  by_cases hi : i < zs.length
  · have : zs.getD i 0 = zs[i] := by simp [List.getD, hi]
    rw [this]
    exact h _ (List.getElem_mem hi)
  · have : zs.getD i 0 = 0 := by simp [List.getD, hi]
    rw [this]; decide

theorem Row.nil (w : World) (ao : Option Addr) : Row w ao [] := fun i hi => absurd hi (by simp)

theorem Row.at {w : World} {ao : Option Addr} {zs : List Int} (h : Row w ao zs) {k : Nat} (hk : k < zs.length) :
    ∃ b off, ao = some ⟨b, off, none⟩ ∧ ∀ i, i < zs.length → w.cell? ⟨b, off + i, none⟩ = some (.int .u8 (zs.getD i 0)) := by
  obtain ⟨b, off, rfl, _⟩ := h k hk
  refine ⟨b, off, rfl, fun i hi => ?_⟩
  obtain ⟨b', off', e, hc⟩ := h i hi
  simp only [Option.some.injEq, Addr.mk.injEq, and_true] at e
  obtain ⟨rfl, rfl⟩ := e
  exact hc

theorem Row.of {w : World} {b off : Nat} {zs : List Int} (h : ∀ i, i < zs.length → w.cell? ⟨b, off + i, none⟩ = some (.int .u8 (zs.getD i 0))) : Row w (some ⟨b, off, none⟩) zs :=
  fun i hi => ⟨b, off, rfl, h i hi⟩

/-- What lies in a block of the heap stays while other blocks are written and made. -/
theorem Row.grown {w w' : World} {row : Option Nat} {ao : Option Addr} {zs : List Int} (h : Row w ao zs) (hg : w.grownBy w' row) (hne : ∀ ad, ao = some ad → some ad.block ≠ row) : Row w' ao zs := by
  intro i hi
  obtain ⟨b, off, rfl, hc⟩ := h i hi
  exact ⟨b, off, rfl, hg.cell hc (hne ⟨b, off, none⟩ rfl)⟩

theorem Row.below {w w' : World} {ao : Option Addr} {zs : List Int} (h : Row w ao zs) (hb : Below w.heap.size w w') : Row w' ao zs := by
  intro i hi
  obtain ⟨b, off, rfl, hc⟩ := h i hi
  exact ⟨b, off, rfl, by rw [hb.cell (World.block_lt_of_cell? w _ hc)]; exact hc⟩

theorem Row.drewN {w : World} {ao : Option Addr} {zs : List Int} (h : Row w ao zs) (k : Nat) : Row (w.drewN k) ao zs := h

theorem below_drewN' (B : Nat) (w : World) (k : Nat) : Below B w (w.drewN k) := ⟨rfl, rfl, rfl, Nat.le_refl _, fun _ _ => rfl⟩

theorem bcell {W w1 : World} (hb : Below W.heap.size W w1) : (∀ b o, b < W.heap.size → w1.cell? ⟨b, o, none⟩ = W.cell? ⟨b, o, none⟩) ∧ (∀ b o, b < W.heap.size → w1.frozen? ⟨b, o, none⟩ = W.frozen? ⟨b, o, none⟩) :=
  ⟨fun b o h => hb.cell (p := ⟨b, o, none⟩) h, fun b o h => hb.frozen (p := ⟨b, o, none⟩) h⟩

/-- Out of an owned row. -/
theorem Row.owned {w : World} {base e g n cap : Nat} {zs : List Int} (h : w.ownsRow base e 1 (.slice (some ⟨g, 0, none⟩) n cap) n (zs.map (Value.int .u8))) : Row w (some ⟨g, 0, none⟩) zs := by
  have hl : n = zs.length := by have := h.1; simp at this; omega
  subst hl
  refine Row.of fun i hi => ?_
  rw [Nat.zero_add, h.cellAt i (by omega)]
  simp [List.getD, hi]

/-- The list that the copying loop has made after k rounds. -/
def copied (zs : List Int) (k : Nat) : List Int := zs.take k ++ List.replicate (zs.length - k) 0

theorem copied_len (zs : List Int) (k : Nat) (h : k ≤ zs.length) : (copied zs k).length = zs.length := by simp [copied]; omega
theorem copied_zero (zs : List Int) : copied zs 0 = List.replicate zs.length 0 := by simp [copied]
theorem copied_all (zs : List Int) : copied zs zs.length = zs := by simp [copied]
theorem copied_succ (zs : List Int) (k : Nat) (h : k < zs.length) : (copied zs k).set k (zs.getD k 0) = copied zs (k + 1) := by
  have e : zs.take (k + 1) = zs.take k ++ [zs.getD k 0] := by
    rw [List.take_succ_eq_append_getElem h]
    simp [List.getD, h]
  have e2 : zs.length - k = (zs.length - (k + 1)) + 1 := by omega
  unfold copied
  rw [e, e2, List.replicate_succ, List.set_append_right _ _ (by simp; omega)]
  simp [Nat.min_eq_left (Nat.le_of_lt h)]
theorem copied_map (zs : List Int) (k : Nat) (h : k < zs.length) : ((copied zs k).map (Value.int .u8)).set k (.int .u8 (zs.getD k 0)) = (copied zs (k + 1)).map (Value.int .u8) := by
  rw [← copied_succ zs k h, List.map_set]

/-- One byte written. -/
theorem Row.set {w : World} {b off : Nat} {zs : List Int} (h : Row w (some ⟨b, off, none⟩) zs) {k : Nat} (hk : k < zs.length) (x : Int) : Row (w.setCell ⟨b, off + k, none⟩ (.int .u8 x)) (some ⟨b, off, none⟩) (zs.set k x) := by
  obtain ⟨b', o', e, hc⟩ := h.at hk
  simp only [Option.some.injEq, Addr.mk.injEq, and_true] at e
  obtain ⟨rfl, rfl⟩ := e
  refine Row.of fun i hi => ?_
  rw [List.length_set] at hi
  by_cases hik : k = i
  · subst hik
    rw [World.cell?_setCell_same _ _ _ (hc k hk)]
    simp [List.getD, hi]
  · rw [World.cell?_setCell_other _ _ _ _ (by simp), hc i hi]
    simp [List.getD, hik]

/-- What marking has made after j rounds. -/
def marked (zs : List Int) (k j : Nat) : List Int := (List.range j).map (fun i => (((k + i : Nat) : Int)) % 256) ++ zs.drop j
theorem marked_len (zs : List Int) (k j : Nat) (h : j ≤ zs.length) : (marked zs k j).length = zs.length := by simp [marked]; omega
theorem marked_zero (zs : List Int) (k : Nat) : marked zs k 0 = zs := by simp [marked]
theorem marked_succ (zs : List Int) (k j : Nat) (h : j < zs.length) : (marked zs k j).set j ((((k + j : Nat) : Int)) % 256) = marked zs k (j + 1) := by
  have e : zs.drop j = zs[j] :: zs.drop (j + 1) := List.drop_eq_getElem_cons h
  unfold marked
  rw [List.set_append_right _ _ (by simp), List.range_succ, List.map_append, List.append_assoc]
  simp only [List.length_map, List.length_range, Nat.sub_self, e, List.set_cons_zero]
  rfl
/-- The marks. -/
def marks (k n : Nat) : List Int := (List.range n).map (fun i => (((k + i : Nat) : Int)) % 256)
theorem marked_all (zs : List Int) (k : Nat) : marked zs k zs.length = marks k zs.length := by simp [marked, marks]
theorem marks_len (k n : Nat) : (marks k n).length = n := by simp [marks]
theorem marks_getD (k n j : Nat) (h : j < n) : (marks k n).getD j 0 = (((k + j : Nat) : Int)) % 256 := by simp [marks, List.getD, h]

/-- The cells are the call's own: they may be written. -/
def Open (w : World) (ao : Option Addr) (n : Nat) : Prop := ∀ ad, ao = some ad → ∀ i, i < n → w.frozen? ⟨ad.block, ad.off + i, none⟩ = false

theorem Open.owned {w : World} {base e g n cap : Nat} {xs : List Value} (h : w.ownsRow base e 1 (.slice (some ⟨g, 0, none⟩) n cap) n xs) (m : Nat) : Open w (some ⟨g, 0, none⟩) m := by
  intro ad e i _
  simp only [Option.some.injEq] at e
  subst e
  exact h.frozenAt _
theorem Open.grown {w w' : World} {row : Option Nat} {ao : Option Addr} {zs : List Int} (h : Open w ao zs.length) (hr : Row w ao zs) (hg : w.grownBy w' row) (hne : ∀ ad, ao = some ad → some ad.block ≠ row) : Open w' ao zs.length := by
  intro ad e i hi
  subst e
  obtain ⟨b, off, e, hc⟩ := hr i hi
  simp only [Option.some.injEq] at e
  subst e
  rw [World.frozen?_of_block (w := w) (hg.block b (World.block_lt_of_cell? w _ hc) (hne ⟨b, off, none⟩ rfl))]
  exact h ⟨b, off, none⟩ rfl i hi

/-- The block of a slice's address. -/
def blk (ao : Option Addr) : Option Nat := ao.map (·.block)

theorem grownBy_trans {a b c : World} {r : Option Nat} (h : a.grownBy b r) (k : b.grownBy c r) : a.grownBy c r :=
  ⟨k.os.trans h.os, k.tape.trans h.tape, k.output.trans h.output, Nat.le_trans h.size k.size, fun i hi hne => (k.block i (Nat.lt_of_lt_of_le hi h.size) hne).trans (h.block i hi hne)⟩
theorem grownBy_setCell (w : World) (a : Addr) (v : Value) : w.grownBy (w.setCell a v) (some a.block) :=
  ⟨rfl, rfl, rfl, by simp, fun k _ hk => heap_setCell_other w a k v (fun e => hk (by rw [e]))⟩

theorem list_eq {za zb : List Int} (hl : za.length = zb.length) (h : ∀ j, j < za.length → za.getD j 0 = zb.getD j 0) : za = zb := by
  apply List.ext_getElem hl
  intro j h1 h2
  have := h j h1
  simpa [List.getD, h1, h2] using this

theorem retb {a b : Bool} (h : a = b) : Ending.returned (.bool a) = .returned (.bool b) := by rw [h]

end Go.Proofs.YtlffdadmgginmaeDoor
/-
  A SLICE OF BYTES THAT IS THE CALL's OWN; append OF BYTES THAT LIE ANYWHERE. No program.
-/
namespace Go.Proofs.YtlffdadmgginmaeDoor
open Go.RowKit

/-- '.slice ao zs.length cap' is a slice over the bytes zs, in a block from B on, which may be written. -/
structure Mine (B : Nat) (w : World) (ao : Option Addr) (cap : Nat) (zs : List Int) : Prop where
  fits : zs.length ≤ cap
  most : cap ≤ maxLen
  row : Row w ao zs
  free : Open w ao zs.length
  lies : ∀ ad, ao = some ad → B ≤ ad.block ∧ ad.block < w.heap.size ∧ ad.spot = none
  bare : ao = none → cap = 0

theorem Mine.of_owns {B e : Nat} {w : World} {v : Value} {n : Nat} {zs : List Int} (h : w.ownsRow B e 1 v n (zs.map (Value.int .u8))) : ∃ ao cap, v = .slice ao zs.length cap ∧ Mine B w ao cap zs := by
  have hl : n = zs.length := by have := h.1; simp at this; omega
  subst hl
  rcases h.2 with ⟨rfl, h0⟩ | ⟨g, cap, cur, rfl, hb, hg, hnc, hcm, _⟩
  · refine ⟨none, 0, by rw [h0], by omega, by unfold maxLen; omega, ?_, ?_, ?_, fun _ => rfl⟩
    · intro i hi; omega
    · intro ad e; cases e
    · intro ad e; cases e
  · refine ⟨_, cap, rfl, hnc, hcm, Row.owned h, Open.owned h _, ?_, fun e => by cases e⟩
    intro ad e
    simp only [Option.some.injEq] at e
    subst e
    refine ⟨hb, ?_, rfl⟩
    rcases Nat.lt_or_ge g w.heap.size with hlt | hge
    · exact hlt
    · rw [Array.getElem?_eq_none hge] at hg; cases hg

theorem Mine.mono {B B' : Nat} {w : World} {ao : Option Addr} {cap : Nat} {zs : List Int} (h : Mine B w ao cap zs) (hB : B' ≤ B) : Mine B' w ao cap zs :=
  { h with lies := fun ad e => ⟨Nat.le_trans hB (h.lies ad e).1, (h.lies ad e).2⟩ }

/-- It stays while other blocks are written and made. -/
theorem Mine.grown {B : Nat} {w w' : World} {row : Option Nat} {ao : Option Addr} {cap : Nat} {zs : List Int} (h : Mine B w ao cap zs) (hg : w.grownBy w' row) (hne : ∀ k, row = some k → blk ao ≠ some k) : Mine B w' ao cap zs := by
  have hn : ∀ ad, ao = some ad → some ad.block ≠ row := by
    intro ad ea er
    exact hne _ er.symm (by rw [ea]; rfl)
  exact { h with row := h.row.grown hg hn, free := h.free.grown h.row hg hn, lies := fun ad e => ⟨(h.lies ad e).1, Nat.lt_of_lt_of_le (h.lies ad e).2.1 hg.size, (h.lies ad e).2.2⟩ }

theorem grownBy_of_below {w w' : World} (h : Below w.heap.size w w') (row : Option Nat) : w.grownBy w' row := ⟨h.os, h.tape, h.output, h.size, fun k hk _ => h.block k hk⟩
theorem below_of_grownBy {w w' : World} (h : w.grownBy w' none) : Below w.heap.size w w' := ⟨h.os, h.tape, h.output, h.size, fun k hk => h.block k hk (by simp)⟩

theorem Mine.below {B : Nat} {w w' : World} {ao : Option Addr} {cap : Nat} {zs : List Int} (h : Mine B w ao cap zs) (hb : Below w.heap.size w w') : Mine B w' ao cap zs :=
  h.grown (grownBy_of_below hb none) (fun _ e => by cases e)
/-- A block below B is none of its own. -/
theorem Mine.far {B : Nat} {w : World} {ao : Option Addr} {cap : Nat} {zs : List Int} (h : Mine B w ao cap zs) {k : Nat} (hk : k < B) : blk ao ≠ some k := by
  intro e
  cases ao with
  | none => cases e
  | some ad =>
    have := (h.lies ad rfl).1
    simp [blk] at e
    omega
theorem Mine.nil_len {B : Nat} {w : World} {ao : Option Addr} {cap : Nat} {zs : List Int} (h : Mine B w ao cap zs) : ao = none → zs.length = 0 ∧ cap = 0 := by
  intro e
  have := h.bare e
  have := h.fits
  omega

/-- The whole row is the call's own, from its block's head on: what append onto it asks. -/
def OwnsB (e B : Nat) (w : World) (ao : Option Addr) (cap : Nat) (zs : List Int) : Prop := w.ownsRow B e 1 (.slice ao zs.length cap) zs.length (zs.map (Value.int .u8))
theorem OwnsB.mine {e B : Nat} {w : World} {ao : Option Addr} {cap : Nat} {zs : List Int} (h : OwnsB e B w ao cap zs) : Mine B w ao cap zs := by
  obtain ⟨ao', cap', e', hm⟩ := Mine.of_owns h
  simp only [Value.slice.injEq, true_and] at e'
  obtain ⟨rfl, rfl⟩ := e'
  exact hm
theorem OwnsB.of {e B : Nat} {w : World} {v : Value} {n : Nat} {zs : List Int} (h : w.ownsRow B e 1 v n (zs.map (Value.int .u8))) : ∃ ao cap, v = .slice ao zs.length cap ∧ OwnsB e B w ao cap zs := by
  obtain ⟨ao, cap, rfl, hm⟩ := Mine.of_owns h
  have hl : n = zs.length := by have := h.1; simp at this; omega
  subst hl
  exact ⟨ao, cap, rfl, h⟩
theorem OwnsB.grown {e B : Nat} {w w' : World} {row : Option Nat} {ao : Option Addr} {cap : Nat} {zs : List Int} (h : OwnsB e B w ao cap zs) (hg : w.grownBy w' row) (hne : ∀ k, row = some k → blk ao ≠ some k) : OwnsB e B w' ao cap zs := by
  refine World.ownsRow.kept h hg ?_
  cases ao with
  | none => exact .inl rfl
  | some ad => exact .inr (fun he => hne _ he.symm rfl)
theorem OwnsB.below {e B : Nat} {w w' : World} {ao : Option Addr} {cap : Nat} {zs : List Int} (h : OwnsB e B w ao cap zs) (hb : Below w.heap.size w w') : OwnsB e B w' ao cap zs :=
  h.grown (grownBy_of_below hb none) (fun _ e => by cases e)
theorem OwnsB.mono {e B B' : Nat} {w : World} {ao : Option Addr} {cap : Nat} {zs : List Int} (h : OwnsB e B w ao cap zs) (hB : B' ≤ B) : OwnsB e B' w ao cap zs := by
  refine ⟨h.1, ?_⟩
  rcases h.2 with h2 | ⟨g, c, cur, h3, h4, h5⟩
  · exact .inl h2
  · exact .inr ⟨g, c, cur, h3, Nat.le_trans hB h4, h5⟩

/-- Bytes that lie anywhere: what append asks of them. -/
theorem Row.news {w : World} {ad : Addr} {zs : List Int} (h : Row w (some ad) zs) : ∀ j u, (zs.map (Value.int .u8))[j]? = some u → w.cell? (ad.add j) = some u := by
  intro j u hu
  have hj : j < zs.length := by
    have := (List.getElem?_eq_some_iff.1 hu).1
    simpa using this
  obtain ⟨b, off, e, hc⟩ := h j hj
  simp only [Option.some.injEq] at e
  subst e
  rw [Addr.add_lit, hc]
  simpa [List.getD, hj] using hu

section
variable {P : Program} (w : World)

/-- 'append(v, x...)': v nil or the call's own, x bytes that lie anywhere, nil too. -/
theorem run_append_row (base : Nat) (t ty e : TypeId) (i : TypeInfo) (z : Value) (bytes : Nat) (ht : P.underlying t = some (.slice e)) (hi : P.info? e = some i) (hz : i.zero = some z)
    (hsize : i.size = 1) (hby : i.bytes = bytes) (hzs : z.cells.size = 1)
    (v : Value) (n : Nat) (xs : List Value) (hown : w.ownsRow base e 1 v n xs) (ao : Option Addr) (c : Nat) (zs : List Int) (hr : Row w ao zs) (hnil : ao = none → zs.length = 0 ∧ c = 0)
    (h63 : n + zs.length ≤ maxLen) (hbytes : (n + zs.length) * bytes ≤ 140737488355328) (hbase : base ≤ w.heap.size) :
    ∃ v' w', (Builtin.append_ #[t, t] ty #[v, .slice ao zs.length c]).run P w = .ok v' w' ∧ w'.ownsRow base e 1 v' (n + zs.length) (xs ++ zs.map (Value.int .u8)) ∧ w.grownBy w' v.ownBlock ∧
      (v'.ownBlock = v.ownBlock ∨ v'.ownBlock = some w.heap.size) := by
  cases ao with
  | none =>
    obtain ⟨h0, rfl⟩ := hnil rfl
    have e0 : zs = [] := List.eq_nil_of_length_eq_zero h0
    subst e0
    refine ⟨v, w, run_append_owned_none (P := P) w base t ty e i 1 ht hi v n xs hown, by simpa using hown, World.grownBy.refl _ _, .inl rfl⟩
  | some ad =>
    obtain ⟨v', w', h1, h2, h3, _, h5⟩ := run_append_own_at (P := P) w base t ty e i z 1 bytes ht hi hz hsize hby hzs (by decide) v n xs hown ad zs.length c (zs.map (Value.int .u8)) (by simp) hr.news (ints_oneCell _ _) h63 hbytes hbase
    exact ⟨v', w', h1, h2, h3, h5⟩

theorem wp_append_row {o : Oper} {a : Act} {K : Act → World → Prop} {Q : Exit → Act → World → Prop} (s x : Operand) (t : TypeId)
    (ho : o.op = .call { callee := .builtin .append, args := #[s, x], argTypes := #[t, t] })
    (base : Nat) (e : TypeId) (i : TypeInfo) (z : Value) (bytes : Nat) (ht : P.underlying t = some (.slice e)) (hi : P.info? e = some i) (hz : i.zero = some z)
    (hsize : i.size = 1) (hby : i.bytes = bytes) (hzs : z.cells.size = 1)
    (v : Value) (n : Nat) (xs : List Value) (hs : a.eval s = v) (hown : w.ownsRow base e 1 v n xs) (ao : Option Addr) (c : Nat) (zs : List Int) (hx : a.eval x = .slice ao zs.length c) (hr : Row w ao zs) (hnil : ao = none → zs.length = 0 ∧ c = 0)
    (h63 : n + zs.length ≤ maxLen) (hbytes : (n + zs.length) * bytes ≤ 140737488355328) (hbase : base ≤ w.heap.size)
    (h : ∀ v' w', w'.ownsRow base e 1 v' (n + zs.length) (xs ++ zs.map (Value.int .u8)) → w.grownBy w' v.ownBlock → (v'.ownBlock = v.ownBlock ∨ v'.ownBlock = some w.heap.size) → K (a.put o.dst v') w') : o.wp P a w K Q := by
  obtain ⟨v', w', hr, h2, h3, h4⟩ := run_append_row (P := P) w base t o.type e i z bytes ht hi hz hsize hby hzs v n xs hown ao c zs hr hnil h63 hbytes hbase
  unfold Oper.wp execOp
  simp only [ho, resolve, invoke, builtin, Sem.run_bind, Sem.run_pure, Result.andThen_ok, List.map_toArray, List.map_cons, List.map_nil, hs, hx, hr]
  exact h v' w' h2 h3 h4

theorem wpList_append_row {ops : Array Oper} {rest : List Oper} {o : Oper} {a : Act} {Q : Exit → Act → World → Prop} (hgd : o.guard = none) (s x : Operand) (t : TypeId)
    (ho : o.op = .call { callee := .builtin .append, args := #[s, x], argTypes := #[t, t] })
    (base : Nat) (e : TypeId) (i : TypeInfo) (z : Value) (bytes : Nat) (ht : P.underlying t = some (.slice e)) (hi : P.info? e = some i) (hz : i.zero = some z)
    (hsize : i.size = 1) (hby : i.bytes = bytes) (hzs : z.cells.size = 1)
    (v : Value) (n : Nat) (xs : List Value) (hs : a.eval s = v) (hown : w.ownsRow base e 1 v n xs) (ao : Option Addr) (c : Nat) (zs : List Int) (hx : a.eval x = .slice ao zs.length c) (hr : Row w ao zs) (hnil : ao = none → zs.length = 0 ∧ c = 0)
    (h63 : n + zs.length ≤ maxLen) (hbytes : (n + zs.length) * bytes ≤ 140737488355328) (hbase : base ≤ w.heap.size)
    (h : ∀ v' w', w'.ownsRow base e 1 v' (n + zs.length) (xs ++ zs.map (Value.int .u8)) → w.grownBy w' v.ownBlock → (v'.ownBlock = v.ownBlock ∨ v'.ownBlock = some w.heap.size) → wpList P ops Q rest (a.put o.dst v') w') : wpList P ops Q (o :: rest) a w :=
  wpList_plain hgd fun _ hK => wp_append_row w s x t ho base e i z bytes ht hi hz hsize hby hzs v n xs hs hown ao c zs hx hr hnil h63 hbytes hbase fun v' w' h2 h3 h4 => hK _ _ (h v' w' h2 h3 h4)

theorem step_append_row {ops : Array Oper} {o : Oper} {a : Act} {K : Act → World → Prop} {Q : Exit → Act → World → Prop} {E : Prop} (hgd : o.guard = none) (s x : Operand) (t : TypeId)
    (ho : o.op = .call { callee := .builtin .append, args := #[s, x], argTypes := #[t, t] })
    (base : Nat) (e : TypeId) (i : TypeInfo) (z : Value) (bytes : Nat) (ht : P.underlying t = some (.slice e)) (hi : P.info? e = some i) (hz : i.zero = some z)
    (hsize : i.size = 1) (hby : i.bytes = bytes) (hzs : z.cells.size = 1)
    (v : Value) (n : Nat) (xs : List Value) (hs : a.eval s = v) (hown : w.ownsRow base e 1 v n xs) (ao : Option Addr) (c : Nat) (zs : List Int) (hx : a.eval x = .slice ao zs.length c) (hr : Row w ao zs) (hnil : ao = none → zs.length = 0 ∧ c = 0)
    (h63 : n + zs.length ≤ maxLen) (hbytes : (n + zs.length) * bytes ≤ 140737488355328) (hbase : base ≤ w.heap.size)
    (h : ∀ v' w', w'.ownsRow base e 1 v' (n + zs.length) (xs ++ zs.map (Value.int .u8)) → w.grownBy w' v.ownBlock → (v'.ownBlock = v.ownBlock ∨ v'.ownBlock = some w.heap.size) → K (a.put o.dst v') w') :
    if Region.wanted o (yielded ops a.tmps) = true then Oper.wp P o a w K Q else E := by
  have hw : Region.wanted o (yielded ops a.tmps) = true := by simp [Region.wanted, hgd]
  rw [if_pos hw]
  exact wp_append_row w s x t ho base e i z bytes ht hi hz hsize hby hzs v n xs hs hown ao c zs hx hr hnil h63 hbytes hbase h

end
end Go.Proofs.YtlffdadmgginmaeDoor
namespace Go.Proofs.YtlffdadmgginmaeDoor
open Go.RowKit
attribute [local go_sem ↓] Go.wp_at_zero Go.wp_at_succ

theorem Tryd.info_u8s : (Tryd.prog.info? 5).map (fun i => (i.zero, i.size, i.bytes)) = some (some (.int .u8 0), 1, 1) := by kernel_rfl

/-- impl.copyBytes. -/
theorem copyBytes_owns (ao : Option Addr) (cap : Nat) (zs : List Int) (w : World) (hr : Row w ao zs) (hnil : ao = none → cap = 0) (hn : zs.length ≤ 140737488355328) :
    Calls Tryd.prog 76 #[.slice ao zs.length cap] w fun e w' => ∃ ao' cap', e = .returned (.slice ao' zs.length cap') ∧ OwnsB 5 w.heap.size w' ao' cap' zs ∧ Below w.heap.size w w' := by
  obtain ⟨i0, hi, hz0, hz1, hz2⟩ := info_parts Tryd.info_u8s
  have hnl : ao = none → zs.length = 0 ∧ cap = 0 := by
    intro e
    refine ⟨?_, hnil e⟩
    rcases Nat.eq_zero_or_pos zs.length with h | h
    · exact h
    · obtain ⟨b, off, e', _⟩ := hr 0 h
      rw [e] at e'; cases e'
  go_enter Tryd.func76, Tryd.ntmps76
  go_wp2_with (at_builtin; refine wpList_append_row _ rfl _ _ 22 rfl w.heap.size 5 i0 (.int .u8 0) 1 Tryd.underlying22 hi hz0 hz1 hz2 rfl (.slice none 0 0) 0 [] rfl (World.ownsRow_nil _ _ _ _) ao cap zs rfl hr hnl (by unfold maxLen; omega) (by omega) (Nat.le_refl _) ?_)
  intro v' w1 hown hgrow hat
  have hb : Below w.heap.size w w1 := below_of_grownBy hgrow
  obtain ⟨ao', cap', e, hm⟩ := OwnsB.of hown
  rw [e]
  clear hown hgrow hat hr hnl e
  go_wp2_with fail
  go_ret
  exact ⟨ao', cap', rfl, hm, hb⟩
theorem copyBytes_any (ao : Option Addr) (cap : Nat) (zs : List Int) (w : World) (hr : Row w ao zs) (hnil : ao = none → cap = 0) (hn : zs.length ≤ 140737488355328) :
    Calls Tryd.prog 76 #[.slice ao zs.length cap] w fun e w' => ∃ ao' cap', e = .returned (.slice ao' zs.length cap') ∧ Mine w.heap.size w' ao' cap' zs ∧ Below w.heap.size w w' :=
  (copyBytes_owns ao cap zs w hr hnil hn).mono fun _ _ ⟨x, y, h1, h2, h3⟩ => ⟨x, y, h1, h2.mine, h3⟩

/-- A source in memory: its three cells. -/
def Src (w : World) (p : Nat) (v : Value) (a u : Int) : Prop :=
  w.cell? ⟨p, 0, none⟩ = some v ∧ w.cell? ⟨p, 1, none⟩ = some (.int .i64 a) ∧ w.cell? ⟨p, 2, none⟩ = some (.int .i64 u) ∧
    w.frozen? ⟨p, 0, none⟩ = false ∧ w.frozen? ⟨p, 1, none⟩ = false ∧ w.frozen? ⟨p, 2, none⟩ = false

theorem src_new (w : World) (v : Value) (a u : Int) (t : TypeId) : Src (w.alloc (.cells #[v, .int .i64 a, .int .i64 u] t)) w.heap.size v a u := by
  simp [Src, go_sem]

set_option maxRecDepth 100000 in
set_option maxHeartbeats 3200000 in
/-- impl.openSource. -/
theorem openSource_owns (ao : Option Addr) (cap : Nat) (zs : List Int) (a u : Int) (w : World) (hr : Row w ao zs) (hnil : ao = none → cap = 0) (hn : zs.length ≤ 140737488355328) :
    Calls Tryd.prog 50 #[.agg #[.slice ao zs.length cap, .int .i64 a, .int .i64 u]] w fun e w' => ∃ p ao' cap', e = .returned (.pointer (some ⟨p, 0, none⟩)) ∧ Src w' p (.slice ao' zs.length cap') a u ∧ OwnsB 5 w.heap.size w' ao' cap' zs ∧ w.heap.size < p ∧ p < w'.heap.size ∧ blk ao' ≠ some p ∧ Below w.heap.size w w' := by
  go_enter Tryd.func50, Tryd.ntmps50
  go_wp2
  go_region_held3 (fun w' => w'.cell? ⟨w.heap.size, 0, none⟩ = some (.slice ao zs.length cap) ∧ w'.cell? ⟨w.heap.size, 1, none⟩ = some (.int .i64 a) ∧ w'.cell? ⟨w.heap.size, 2, none⟩ = some (.int .i64 u))
    (first | go_keep | (simp [*]))
    (first | (go_at_call 76; refine (copyBytes_owns ao cap zs _ (hr.below ?_) hnil hn).mono ?_; (exact ((Below.refl _ _).alloc (Nat.le_refl _) _).drew); rintro e w1 ⟨ao', cap', rfl, hm, hb⟩; obtain ⟨hc, hf⟩ := bcell hb))
  go_wp2_with fail
  go_ret
  have hz : w.heap.size + 1 ≤ w1.heap.size := by have := hb.size; simp at this; omega
  have hbl : Below w.heap.size w w1 := (((Below.refl w.heap.size w).alloc (Nat.le_refl _) _).drew).trans (hb.mono (by simp))
  refine ⟨w1.heap.size, ao', cap', by simp, src_new _ _ _ _ _, (hm.mono (by simp)).below ((Below.refl _ _).alloc (Nat.le_refl _) _), by omega, by simp, ?_, hbl.alloc (by omega) _⟩
  intro e
  cases ao' with
  | none => cases e
  | some ad =>
    have := (hm.mine.lies ad rfl).2.1
    simp [blk] at e
    omega

theorem openSource_any (ao : Option Addr) (cap : Nat) (zs : List Int) (a u : Int) (w : World) (hr : Row w ao zs) (hnil : ao = none → cap = 0) (hn : zs.length ≤ 140737488355328) :
    Calls Tryd.prog 50 #[.agg #[.slice ao zs.length cap, .int .i64 a, .int .i64 u]] w fun e w' => ∃ p ao' cap', e = .returned (.pointer (some ⟨p, 0, none⟩)) ∧ Src w' p (.slice ao' zs.length cap') a u ∧ Mine w.heap.size w' ao' cap' zs ∧ w.heap.size < p ∧ p < w'.heap.size ∧ blk ao' ≠ some p ∧ Below w.heap.size w w' :=
  (openSource_owns ao cap zs a u w hr hnil hn).mono fun _ _ ⟨p, x, y, h1, h2, h3, h4⟩ => ⟨p, x, y, h1, h2, h3.mine, h4⟩

theorem Src.drewN {w : World} {p : Nat} {v : Value} {a u : Int} (h : Src w p v a u) (k : Nat) : Src (w.drewN k) p v a u := h
theorem Src.grown {w w' : World} {row : Option Nat} {p : Nat} {v : Value} {a u : Int} (h : Src w p v a u) (hg : w.grownBy w' row) (hne : some p ≠ row) : Src w' p v a u := by
  obtain ⟨h1, h2, h3, h4, h5, h6⟩ := h
  have hp : p < w.heap.size := World.block_lt_of_cell? w _ h1
  have e := hg.block p hp hne
  refine ⟨(World.cell?_of_block (w := w) e).trans h1, (World.cell?_of_block (w := w) e).trans h2, (World.cell?_of_block (w := w) e).trans h3, ?_, ?_, ?_⟩
  · exact (World.frozen?_of_block (w := w) e).trans h4
  · exact (World.frozen?_of_block (w := w) e).trans h5
  · exact (World.frozen?_of_block (w := w) e).trans h6

/-- Whether n bits are there. -/
def hasB (len : Nat) (a u n : Int) : Bool := decide (n ≤ 8 * (len : Int) - a ∧ n ≤ 34359738368 - u)
theorem hasB_no {len : Nat} {a u n : Int} (h : ¬ n ≤ 8 * (len : Int) - a) : false = hasB len a u n := (decide_eq_false (by omega)).symm
theorem hasB_yes {len : Nat} {a u n : Int} (h : n ≤ 8 * (len : Int) - a) : decide (n ≤ 34359738368 - u) = hasB len a u n := by
  unfold hasB
  rw [Bool.eq_iff_iff]
  simp
  omega

set_option maxHeartbeats 3200000 in
/-- (*source).has. -/
theorem has_any (p : Nat) (ao : Option Addr) (len cap : Nat) (a u n : Int) (w : World) (hs : Src w p (.slice ao len cap) a u) (hl : len ≤ 1000000) (a0 : 0 ≤ a) (a7 : a ≤ 7) (u0 : 0 ≤ u) (u1 : u ≤ 34359738368) (n0 : 0 ≤ n) (n1 : n ≤ 8000000) :
    Calls Tryd.prog 95 #[.pointer (some ⟨p, 0, none⟩), .int .i64 n] w fun e w' => e = .returned (.bool (hasB len a u n)) ∧ ∃ q, w' = w.drewN q := by
  obtain ⟨c0, c1, c2, _, _, _⟩ := hs
  by_cases h : n ≤ 8 * (len : Int) - a
  · have HB : Hid (decide (n ≤ 34359738368 - u) = hasB len a u n) := hasB_yes h
    have hd : decide (n ≤ 8 * (len : Int) - a) = true := decide_eq_true h
    go_enter Tryd.func95, Tryd.ntmps95
    go_wp2
    go_quiet (fail)
    go_wp2
    go_ret
    exact ⟨retb HB.out, _, rfl⟩
  · have HB : Hid (false = hasB len a u n) := hasB_no h
    have hd : decide (n ≤ 8 * (len : Int) - a) = false := decide_eq_false h
    go_enter Tryd.func95, Tryd.ntmps95
    go_wp2
    go_quiet (fail)
    go_wp2
    go_ret
    exact ⟨retb HB.out, _, rfl⟩

/-- The address of a slice cut at its head. -/
def cutAt (ao : Option Addr) (cap k : Nat) : Option Addr := if cap = k then ao else ao.map (·.add k)

theorem Row.cut {w : World} {ao : Option Addr} {zs : List Int} (h : Row w ao zs) {cap k : Nat} (hc : zs.length ≤ cap) : Row w (cutAt ao cap k) (zs.drop k) := by
  intro i hi
  rw [List.length_drop] at hi
  obtain ⟨b, off, rfl, hcell⟩ := h (k + i) (by omega)
  unfold cutAt
  rw [if_neg (by omega)]
  refine ⟨b, off + k, by simp [Addr.add_lit], ?_⟩
  rw [Nat.add_assoc, hcell]
  simp [List.getD]

theorem src_set {w : World} {p : Nat} {v : Value} {a u : Int} (h : Src w p v a u) (v' : Value) (a' u' : Int) :
    Src (((w.setCell ⟨p, 0, none⟩ v').setCell ⟨p, 1, none⟩ (.int .i64 a')).setCell ⟨p, 2, none⟩ (.int .i64 u')) p v' a' u' ∧
      w.grownBy (((w.setCell ⟨p, 0, none⟩ v').setCell ⟨p, 1, none⟩ (.int .i64 a')).setCell ⟨p, 2, none⟩ (.int .i64 u')) (some p) ∧
      (((w.setCell ⟨p, 0, none⟩ v').setCell ⟨p, 1, none⟩ (.int .i64 a')).setCell ⟨p, 2, none⟩ (.int .i64 u')).heap.size = w.heap.size := by
  obtain ⟨c0, c1, c2, f0, f1, f2⟩ := h
  refine ⟨⟨?_, ?_, ?_, ?_, ?_, ?_⟩, ?_, by simp⟩
  · rw [World.cell?_setCell_other _ _ _ _ (by simp), World.cell?_setCell_other _ _ _ _ (by simp), World.cell?_setCell_same _ _ _ c0]
  · rw [World.cell?_setCell_other _ _ _ _ (by simp), World.cell?_setCell_same _ _ _ (u := .int .i64 a) (by rw [World.cell?_setCell_other _ _ _ _ (by simp)]; exact c1)]
  · rw [World.cell?_setCell_same _ _ _ (u := .int .i64 u) (by rw [World.cell?_setCell_other _ _ _ _ (by simp), World.cell?_setCell_other _ _ _ _ (by simp)]; exact c2)]
  · simp [World.frozen?_setCell, f0]
  · simp [World.frozen?_setCell, f1]
  · simp [World.frozen?_setCell, f2]
  · exact grownBy_trans (grownBy_trans (grownBy_setCell w ⟨p, 0, none⟩ _) (grownBy_setCell _ ⟨p, 1, none⟩ _)) (grownBy_setCell _ ⟨p, 2, none⟩ _)

set_option maxHeartbeats 3200000 in
/-- (*source).pass. -/
theorem pass_any (p : Nat) (ao : Option Addr) (len cap : Nat) (a u n : Int) (w : World) (hs : Src w p (.slice ao len cap) a u) (hl : len ≤ 1000000) (a0 : 0 ≤ a) (a7 : a ≤ 7) (u0 : 0 ≤ u) (u1 : u ≤ 34359738368) (n0 : 0 ≤ n) (n1 : a + n ≤ 8 * (len : Int)) :
    Calls Tryd.prog 23 #[.pointer (some ⟨p, 0, none⟩), .int .i64 n] w fun e w' => e = .returned (.tuple #[]) ∧
      Src w' p (.slice (cutAt ao cap ((a + n) / 8).toNat) (len - ((a + n) / 8).toNat) (cap - ((a + n) / 8).toNat)) ((a + n) % 8) (u + n) ∧ w.grownBy w' (some p) ∧ w'.heap.size = w.heap.size := by
  obtain ⟨c0, c1, c2, f0, f1, f2⟩ := hs
  obtain ⟨k, hk⟩ : ∃ k : Nat, (a + n) / 8 = (k : Int) := ⟨((a + n) / 8).toNat, by omega⟩
  go_enter Tryd.func23, Tryd.ntmps23
  go_wp2
  · go_end0
    refine ⟨rfl, ?_⟩
    have hc : cutAt ao k k = ao := if_pos rfl
    rw [hc]
    exact src_set ⟨c0, c1, c2, f0, f1, f2⟩ _ _ _
  · go_end0
    refine ⟨rfl, ?_⟩
    have hc : cutAt ao cap k = ao.map (·.add k) := if_neg (by assumption)
    rw [hc]
    exact src_set ⟨c0, c1, c2, f0, f1, f2⟩ _ _ _

/-- Mine, cut at its head. -/
theorem Mine.cut {B : Nat} {w : World} {ao : Option Addr} {cap : Nat} {zs : List Int} (h : Mine B w ao cap zs) (k : Nat) (hk : k ≤ zs.length) : Mine B w (cutAt ao cap k) (cap - k) (zs.drop k) := by
  have hf := h.fits
  refine ⟨by rw [List.length_drop]; omega, by have := h.most; omega, h.row.cut hf, ?_, ?_, ?_⟩
  · intro ad e i hi
    rw [List.length_drop] at hi
    unfold cutAt at e
    rw [if_neg (by omega)] at e
    cases ao with
    | none => cases e
    | some x =>
      simp only [Option.map_some, Option.some.injEq] at e
      subst e
      obtain ⟨b, off, sp⟩ := x
      have hsp := (h.lies _ rfl).2.2
      simp only at hsp
      subst hsp
      have := h.free ⟨b, off, none⟩ rfl (k + i) (by omega)
      rw [Addr.add_lit, Nat.add_assoc]
      exact this
  · intro ad e
    unfold cutAt at e
    split at e
    · exact h.lies ad e
    · cases ao with
      | none => cases e
      | some x =>
        simp only [Option.map_some, Option.some.injEq] at e
        subst e
        obtain ⟨b, off, sp⟩ := x
        have hl := h.lies _ rfl
        obtain ⟨h1, h2, h3⟩ := hl
        simp only at h3
        subst h3
        rw [Addr.add_lit]
        exact ⟨h1, h2, rfl⟩
  · intro e
    unfold cutAt at e
    split at e
    · omega
    · cases ao with
      | none => have := h.bare rfl; omega
      | some x => simp at e
theorem blk_cut (ao : Option Addr) (cap k : Nat) (h : ∀ ad, ao = some ad → ad.spot = none) : blk (cutAt ao cap k) = blk ao := by
  unfold cutAt
  split
  · rfl
  · cases ao with
    | none => rfl
    | some x =>
      obtain ⟨b, off, sp⟩ := x
      have := h _ rfl
      simp only at this
      subst this
      simp [blk, Addr.add_lit]
theorem Mine.nothing (B : Nat) (w : World) : Mine B w none 0 [] :=
  ⟨Nat.le_refl _, Nat.zero_le _, Row.nil _ _, (fun _ e => by cases e), (fun _ e => by cases e), fun _ => rfl⟩

/-- What a function that gives a reader back has left. -/
def ResB (B : Nat) (w : World) (e : Ending) (zs : List Int) (a u : Int) : Prop :=
  ∃ ao cap, e = .returned (.agg #[.slice ao zs.length cap, .int .i64 a, .int .i64 u]) ∧ Mine B w ao cap zs
def ResO (B : Nat) (w : World) (e : Ending) (zs : List Int) (a u : Int) : Prop :=
  ∃ ao cap, e = .returned (.agg #[.slice ao zs.length cap, .int .i64 a, .int .i64 u]) ∧ OwnsB 5 B w ao cap zs
theorem ResO.res {B : Nat} {w : World} {e : Ending} {zs : List Int} {a u : Int} (h : ResO B w e zs a u) : ResB B w e zs a u := by
  obtain ⟨x, y, h1, h2⟩ := h
  exact ⟨x, y, h1, h2.mine⟩
end Go.Proofs.YtlffdadmgginmaeDoor
/-
  THE NUMBER OF A LIST OF BYTES, the first the lowest; its bits. No program.
-/
namespace Go.Proofs.YtlffdadmgginmaeDoor
open Go.RowKit

def bnum : List Int → Nat
  | [] => 0
  | z :: r => z.toNat + 256 * bnum r

theorem bnum_lt (zs : List Int) (h : Octets zs) : bnum zs < 256 ^ zs.length := by
  induction zs with
  | nil => decide
  | cons z r ih =>
    have h1 := h z (List.mem_cons_self)
    have h2 := ih (fun x hx => h x (List.mem_cons_of_mem _ hx))
    simp only [bnum, List.length_cons, Nat.pow_succ]
    omega

theorem bnum_append (xs ys : List Int) : bnum (xs ++ ys) = bnum xs + 256 ^ xs.length * bnum ys := by
  induction xs with
  | nil => simp [bnum]
  | cons z r ih =>
    simp only [List.cons_append, bnum, ih, List.length_cons, Nat.pow_succ]
    rw [Nat.mul_add, ← Nat.mul_assoc, Nat.mul_comm 256 (256 ^ r.length), Nat.add_assoc]

theorem Octets.take {zs : List Int} (h : Octets zs) (k : Nat) : Octets (zs.take k) := fun x hx => h x (List.mem_of_mem_take hx)
theorem Octets.drop {zs : List Int} (h : Octets zs) (k : Nat) : Octets (zs.drop k) := fun x hx => h x (List.mem_of_mem_drop hx)

theorem bnum_take_succ (zs : List Int) (k : Nat) (h : k < zs.length) : bnum (zs.take (k + 1)) = bnum (zs.take k) + (zs.getD k 0).toNat * 256 ^ k := by
  have e : zs.take (k + 1) = zs.take k ++ [zs.getD k 0] := by
    rw [List.take_succ_eq_append_getElem h]
    simp [List.getD, h]
  rw [e, bnum_append]
  simp [bnum, Nat.min_eq_left (Nat.le_of_lt h), Nat.mul_comm]

theorem two56 (k : Nat) : (256 : Nat) ^ k = 2 ^ (8 * k) := by
  rw [Nat.pow_mul]

/-- What lies below the first k bytes is told by them alone. -/
theorem bnum_low (zs : List Int) (k s n : Nat) (h : s + n ≤ 8 * k) : bnum (zs.take k) / 2 ^ s % 2 ^ n = bnum zs / 2 ^ s % 2 ^ n := by
  have e : bnum zs = bnum (zs.take k) + 256 ^ (zs.take k).length * bnum (zs.drop k) := by
    conv => lhs; rw [← List.take_append_drop k zs]
    exact bnum_append _ _
  by_cases hk : k ≤ zs.length
  · have hl : (zs.take k).length = k := by rw [List.length_take]; omega
    rw [e, hl, two56, show 8 * k = s + (8 * k - s) by omega, Nat.pow_add, Nat.mul_assoc, Nat.add_mul_div_left _ _ (Nat.two_pow_pos s),
      show 8 * k - s = n + (8 * k - s - n) by omega, Nat.pow_add, Nat.mul_assoc, Nat.add_mul_mod_self_left]
  · rw [List.take_of_length_le (by omega)]

/-- Bit j of a list of bytes. -/
theorem bnum_bit (zs : List Int) (hz : Octets zs) (j : Nat) : (zs.getD (j / 8) 0).toNat / 2 ^ (j % 8) % 2 = bnum zs / 2 ^ j % 2 := by
  induction zs generalizing j with
  | nil => simp [bnum]
  | cons z r ih =>
    have h1 := hz z (List.mem_cons_self)
    have h2 : Octets r := fun x hx => hz x (List.mem_cons_of_mem _ hx)
    by_cases hj : j < 8
    · have e0 : j / 8 = 0 := by omega
      have e1 : j % 8 = j := by omega
      rw [e0, e1]
      have := bnum_low (z :: r) 1 j 1 (by omega)
      simp only [List.take_succ_cons, List.take_zero, bnum, Nat.mul_zero, Nat.add_zero, Nat.pow_one] at this
      simpa [bnum] using this
    · obtain ⟨i, rfl⟩ : ∃ i, j = i + 8 := ⟨j - 8, by omega⟩
      have e0 : (i + 8) / 8 = i / 8 + 1 := by omega
      have e1 : (i + 8) % 8 = i % 8 := by omega
      rw [e0, e1]
      have hz0 : z.toNat < 256 := by omega
      have e2 : (z.toNat + 256 * bnum r) / 2 ^ (i + 8) = bnum r / 2 ^ i := by
        rw [Nat.pow_add, Nat.mul_comm (2 ^ i), ← Nat.div_div_eq_div_mul]
        congr 1
        show (z.toNat + 256 * bnum r) / 256 = bnum r
        omega
      simp only [bnum]
      rw [e2, ← ih h2 i]
      simp [List.getD]

/-- One bit more at the lowest place. -/
theorem mod_succ (M m : Nat) : M % 2 ^ (m + 1) = 2 * (M / 2 % 2 ^ m) + M % 2 := by
  rw [Nat.pow_succ, Nat.mul_comm (2 ^ m) 2, Nat.mod_mul]
  omega

/-- The number of n bits from bit s on. -/
def field (N s n : Nat) : Nat := N / 2 ^ s % 2 ^ n
theorem field_succ (N s m : Nat) : field N s (m + 1) = 2 * field N (s + 1) m + N / 2 ^ s % 2 := by
  unfold field
  rw [mod_succ, Nat.div_div_eq_div_mul, ← Nat.pow_succ]
theorem field_zero (N s : Nat) : field N s 0 = 0 := by unfold field; rw [Nat.pow_zero, Nat.mod_one]
theorem field_lt (N s n : Nat) : field N s n < 2 ^ n := Nat.mod_lt _ (Nat.two_pow_pos n)

theorem pow_int (m : Nat) : ((2 : Int) ^ m) = ((2 ^ m : Nat) : Int) := by simp

/-- One byte more, above the others. -/
theorem word_or (y k : Nat) (x : Int) (hy : y < 256 ^ k) (hk : k ≤ 4) (x0 : 0 ≤ x) (x1 : x ≤ 255) : bits .or .u64 (y : Int) (IntKind.u64.wrap (x * 2 ^ (8 * k))) = ((y + x.toNat * 256 ^ k : Nat) : Int) := by
  obtain ⟨X, rfl⟩ := Int.eq_ofNat_of_zero_le x0
  rw [Int.toNat_natCast, two56] at *
  have hp : (2 : Nat) ^ (8 * k) ≤ 2 ^ 32 := Nat.pow_le_pow_right (by decide) (by omega)
  have hX : X * 2 ^ (8 * k) ≤ 255 * 2 ^ 32 := Nat.mul_le_mul (by omega) hp
  have e : (X : Int) * 2 ^ (8 * k) = ((X * 2 ^ (8 * k) : Nat) : Int) := by rw [pow_int]; simp
  rw [e]
  have hor : y ||| X * 2 ^ (8 * k) = y + X * 2 ^ (8 * k) := by
    have := Nat.two_pow_add_eq_or_of_lt (i := 8 * k) (b := y) hy X
    rw [Nat.mul_comm, Nat.or_comm, ← this, Nat.add_comm]
  generalize X * 2 ^ (8 * k) = Z at *
  have hw : IntKind.u64.wrap (Z : Int) = (Z : Int) := by rw [IntKind.wrap_u64]; omega
  rw [hw, u64_or_nat y Z (by omega) (by omega), hor]

/-- The lowest n bits behind s. -/
theorem word_and (Y s n : Nat) (hY : Y < 18446744073709551616) (hn : n ≤ 32) : bits .and .u64 ((Y : Int) / 2 ^ s) (IntKind.u64.wrap (IntKind.u64.wrap (2 ^ n) - 1)) = ((field Y s n : Nat) : Int) := by
  have e : (Y : Int) / 2 ^ s = ((Y / 2 ^ s : Nat) : Int) := by rw [pow_int]; simp
  have hp : (2 : Nat) ^ n ≤ 2 ^ 32 := Nat.pow_le_pow_right (by decide) hn
  have hp0 : 0 < (2 : Nat) ^ n := Nat.two_pow_pos n
  have hd : Y / 2 ^ s ≤ Y := Nat.div_le_self _ _
  unfold field
  rw [e, pow_int n, ← Nat.and_two_pow_sub_one_eq_mod]
  generalize (2 : Nat) ^ n = Q at *
  have hw : IntKind.u64.wrap (IntKind.u64.wrap (Q : Int) - 1) = ((Q - 1 : Nat) : Int) := by rw [IntKind.wrap_u64, IntKind.wrap_u64]; omega
  rw [hw, u64_and_nat _ _ (by omega) (by omega)]

end Go.Proofs.YtlffdadmgginmaeDoor
namespace Go.Proofs.YtlffdadmgginmaeDoor
open Go.RowKit

/-- ValidBits, of the length, At and Used. -/
def vld (n : Nat) (at_ used : Int) : Bool :=
  decide (0 ≤ at_ ∧ at_ ≤ 7 ∧ (at_ = 0 ∨ 0 < n) ∧ n ≤ 1000000 ∧ 0 ≤ used ∧ used ≤ 34359738368 ∧ used % 8 = at_)
theorem vld_true {n : Nat} {a u : Int} (h : 0 ≤ a ∧ a ≤ 7 ∧ (a = 0 ∨ 0 < n) ∧ n ≤ 1000000 ∧ 0 ≤ u ∧ u ≤ 34359738368 ∧ u % 8 = a) : true = vld n a u := (decide_eq_true h).symm
theorem vld_false {n : Nat} {a u : Int} (h : ¬ (0 ≤ a ∧ a ≤ 7 ∧ (a = 0 ∨ 0 < n) ∧ n ≤ 1000000 ∧ 0 ≤ u ∧ u ≤ 34359738368 ∧ u % 8 = a)) : false = vld n a u := (decide_eq_false h).symm
theorem vld_out {n : Nat} {a u : Int} (h : vld n a u = true) : 0 ≤ a ∧ a ≤ 7 ∧ (a = 0 ∨ 0 < n) ∧ n ≤ 1000000 ∧ 0 ≤ u ∧ u ≤ 34359738368 ∧ u % 8 = a := of_decide_eq_true h


end Go.Proofs.YtlffdadmgginmaeDoor
namespace Go.Proofs.YtlffdadmgginmaeDoor
open Go.RowKit
set_option linter.unusedVariables false

end Go.Proofs.YtlffdadmgginmaeDoor
namespace Go.Proofs.YtlffdadmgginmaeDoor
open Go.RowKit
attribute [local go_sem ↓] Go.wp_at_zero Go.wp_at_succ

theorem ret_i {k : IntKind} {a b : Int} (h : a = b) : Ending.returned (.int k a) = .returned (.int k b) := by rw [h]

set_option maxRecDepth 100000 in
set_option maxHeartbeats 3200000 in
/-- (bitReader).peek. -/
theorem peek_any (p : Nat) (ao : Option Addr) (cap : Nat) (zs : List Int) (a u : Int) (n : Nat) (w : World) (hs : Src w p (.slice ao zs.length cap) a u) (hr : Row w ao zs) (hz : Octets zs) (hfit : zs.length ≤ cap) (hl : zs.length ≤ 1000000) (a0 : 0 ≤ a) (a7 : a ≤ 7) (n1 : n ≤ 32) (hn : a + n ≤ 8 * (zs.length : Int)) :
    Calls Tryd.prog 96 #[.agg #[.pointer (some ⟨p, 0, none⟩)], .int .i64 n] w fun e w' => e = .returned (.int .u64 (field (bnum zs) a.toNat n : Nat)) ∧ Below w.heap.size w w' := by
  have hp : p < w.heap.size := World.block_lt_of_cell? w _ hs.1
  have hne : w.heap.size ≠ p := by omega
  obtain ⟨c0, c1, c2, f0, f1, f2⟩ := hs
  obtain ⟨m, hm⟩ : ∃ m : Nat, m = min zs.length 5 := ⟨_, rfl⟩
  have hmin : min (zs.length : Int) 5 = (m : Int) := by omega
  have hmax : max (m : Int) 0 = (m : Int) := by omega
  have hm5 : m ≤ 5 := by omega
  have hml : m ≤ zs.length := by omega
  have HM : Hid (m = min zs.length 5) := hm
  clear hm
  go_enter Tryd.func96, Tryd.ntmps96
  go_wp2
  go_quiet (fail)
  go_wp2_with fail
  go_loop [5, 22] (fun x i => ∃ k : Nat, k ≤ m ∧ i = .int .i64 k ∧ x = .int .u64 (bnum (zs.take k) : Nat)) (fun _ i => m - (intOf i).toNat)
  case atStart => exact ⟨0, Nat.zero_le _, rfl, rfl⟩
  case round =>
    obtain ⟨k, hk, rfl, rfl⟩ := hrel
    by_cases hlt : k < m
    · obtain ⟨b, off, rfl, hc⟩ := hr.at (k := k) (by omega)
      have hck := hc k (by omega)
      have hbw : b < w.heap.size := World.block_lt_of_cell? w _ hck
      have hzk := hz.getD k
      have hNs := bnum_take_succ zs k (by omega)
      have HNs : Hid (bnum (zs.take (k + 1)) = bnum (zs.take k) + (zs.getD k 0).toNat * 256 ^ k) := hNs
      clear hNs hc hr
      have hy : bnum (zs.take k) < 256 ^ k := by
        have := bnum_lt (zs.take k) (hz.take k)
        rw [List.length_take, Nat.min_eq_left (by omega)] at this
        exact this
      generalize zs.getD k 0 = x at *
      generalize bnum (zs.take k) = y at *
      go_wp2_with fail
      go_round
      case rel => exact ⟨k + 1, by omega, by go_num, by rw [HNs.out, word_or y k x hy (by omega) hzk.1 hzk.2]⟩
      case measure => simp [intOf]; omega
    · have e : k = m := by omega
      subst e
      have hy : bnum (zs.take k) < 18446744073709551616 := by
        have h1 := bnum_lt (zs.take k) (hz.take k)
        have h2 : (256 : Nat) ^ (zs.take k).length ≤ 256 ^ 5 := Nat.pow_le_pow_right (by decide) (by rw [List.length_take]; omega)
        omega
      have HF : Hid (field (bnum (zs.take k)) a.toNat n = field (bnum zs) a.toNat n) := bnum_low zs k a.toNat n (by have := HM.out; omega)
      clear hr
      go_wp2_with fail
      go_quiet (fail)
      go_wp2_with fail
      go_ret
      exact ⟨by rw [← HF.out]; exact ret_i (word_and _ _ n hy n1), ((((Below.refl _ _).alloc (Nat.le_refl _) _).trans (below_drewN' _ _ _)).trans (below_drewN' _ _ _))⟩

set_option maxHeartbeats 3200000 in
/-- (bitReader).take, where it is not Ok. -/
theorem take_no (p : Nat) (ao : Option Addr) (len cap : Nat) (a u n : Int) (w : World) (hs : Src w p (.slice ao len cap) a u) (hv : vld len a u = true) (hno : n < 0 ∨ 32 < n ∨ (0 ≤ n ∧ n ≤ 32 ∧ hasB len a u n = false)) :
    Calls Tryd.prog 77 #[.agg #[.pointer (some ⟨p, 0, none⟩)], .int .i64 n] w fun e w' => e = .returned (.tuple #[.int .u64 0, .bool false]) ∧ Below w.heap.size w w' := by
  obtain ⟨a0, a7, al, hl, u0, u1, um⟩ := vld_out hv
  clear al um hv
  rcases hno with h | h | ⟨h0, h1, h2⟩
  · clear hs
    go_enter Tryd.func77, Tryd.ntmps77
    go_wp2_with fail
    go_ret2
    exact ⟨rfl, (Below.refl _ _).alloc (Nat.le_refl _) _⟩
  · have h' : ¬ n < 0 := by omega
    clear hs
    go_enter Tryd.func77, Tryd.ntmps77
    go_wp2_with fail
    go_ret2
    exact ⟨rfl, (Below.refl _ _).alloc (Nat.le_refl _) _⟩
  · have HB : Hid (hasB len a u n = false) := h2
    clear h2
    have hs2 := hs.grown (World.grownBy_alloc w (Obj.cells #[Value.pointer (some ⟨p, 0, none⟩)] 49) none) (by simp)
    go_enter Tryd.func77, Tryd.ntmps77
    go_wp2_with fail
    refine (has_any p ao len cap a u n _ hs2 hl a0 a7 u0 u1 h0 (by omega)).mono ?_
    rintro e w' ⟨rfl, q, rfl⟩
    rw [HB.out]
    go_wp2_with fail
    go_ret2
    exact ⟨rfl, ((Below.refl _ _).alloc (Nat.le_refl _) _).trans (below_drewN' _ _ _)⟩

set_option maxHeartbeats 3200000 in
/-- (bitReader).take, Ok. -/
theorem take_yes (p : Nat) (ao : Option Addr) (cap : Nat) (zs : List Int) (a u : Int) (n : Nat) (w : World) (hs : Src w p (.slice ao zs.length cap) a u) (hr : Row w ao zs) (hz : Octets zs) (hfit : zs.length ≤ cap) (hv : vld zs.length a u = true) (n1 : n ≤ 32) (hh : hasB zs.length a u n = true) :
    Calls Tryd.prog 77 #[.agg #[.pointer (some ⟨p, 0, none⟩)], .int .i64 n] w fun e w' => e = .returned (.tuple #[.int .u64 (field (bnum zs) a.toNat n : Nat), .bool true]) ∧
      Src w' p (.slice (cutAt ao cap ((a + n) / 8).toNat) (zs.length - ((a + n) / 8).toNat) (cap - ((a + n) / 8).toNat)) ((a + n) % 8) (u + n) ∧ w.grownBy w' (some p) := by
  obtain ⟨a0, a7, al, hl, u0, u1, um⟩ := vld_out hv
  have hbits := of_decide_eq_true hh
  have HB : Hid (hasB zs.length a u n = true) := hh
  clear al um hv hh
  have hp : p < w.heap.size := World.block_lt_of_cell? w _ hs.1
  have hal := World.grownBy_alloc w (Obj.cells #[Value.pointer (some ⟨p, 0, none⟩)] 49) none
  have hs2 := hs.grown hal (by simp)
  have hr2 := hr.grown hal (by simp)
  have hrd : (w.alloc (.cells #[.pointer (some ⟨p, 0, none⟩)] 49)).cell? ⟨w.heap.size, 0, none⟩ = some (.pointer (some ⟨p, 0, none⟩)) := by simp [go_sem]
  go_enter Tryd.func77, Tryd.ntmps77
  go_wp2_with fail
  refine (has_any p ao zs.length cap a u n _ hs2 hl a0 a7 u0 u1 (by omega) (by omega)).mono ?_
  rintro e w' ⟨rfl, q, rfl⟩
  rw [HB.out]
  go_wp2_with fail
  refine (peek_any p ao cap zs a u n _ (hs2.drewN q) (hr2.drewN q) hz hfit hl a0 a7 n1 (by omega)).mono ?_
  rintro e w3 ⟨rfl, hb3⟩
  have hs3 := (hs2.drewN q).grown (grownBy_of_below hb3 none) (by simp)
  have hrd3 : w3.cell? ⟨w.heap.size, 0, none⟩ = some (.pointer (some ⟨p, 0, none⟩)) := (grownBy_of_below hb3 none).cell (by exact hrd) (by simp)
  have hg3 : w.grownBy w3 (some p) := grownBy_trans (grownBy_trans (World.grownBy_alloc w _ _) (grownBy_of_below (below_drewN' _ _ _) _)) (grownBy_of_below hb3 _)
  clear hr2 hs2 hrd hb3 hr hal
  go_wp2_with fail
  refine (pass_any p ao zs.length cap a u n _ hs3 hl a0 a7 u0 u1 (by omega) (by omega)).mono ?_
  rintro e w4 ⟨rfl, h1, h2, h3⟩
  go_wp2_with fail
  go_ret2
  exact ⟨rfl, h1, grownBy_trans hg3 h2⟩
end Go.Proofs.YtlffdadmgginmaeDoor
namespace Go.Proofs.YtlffdadmgginmaeDoor
open Go.RowKit
attribute [local go_sem ↓] Go.wp_at_zero Go.wp_at_succ
set_option linter.unusedVariables false

theorem hideM {p : Prop} (h : p) : Hid p := h
theorem bnum_drop (zs : List Int) (hz : Octets zs) (k : Nat) (hk : k ≤ zs.length) : bnum (zs.drop k) = bnum zs / 256 ^ k := by
  have h := bnum_append (zs.take k) (zs.drop k)
  rw [List.take_append_drop] at h
  have hl : (zs.take k).length = k := by rw [List.length_take]; omega
  have hb := bnum_lt (zs.take k) (hz.take k)
  rw [hl] at h hb
  rw [h, Nat.add_mul_div_left _ _ (Nat.pow_pos (by decide)), Nat.div_eq_of_lt hb, Nat.zero_add]
theorem field_drop (zs : List Int) (hz : Octets zs) (i n : Nat) (hi : i ≤ 8 * zs.length) : field (bnum (zs.drop (i / 8))) (i % 8) n = field (bnum zs) i n := by
  unfold field
  rw [bnum_drop zs hz (i / 8) (by omega), two56, Nat.div_div_eq_div_mul, ← Nat.pow_add, show 8 * (i / 8) + i % 8 = i from by omega]
/-- A source in block p that has read i bits of zs; its bytes lie in block hB. -/
structure Rd (w : World) (p hB : Nat) (zs : List Int) (i : Nat) : Prop where
  le : i ≤ 8 * zs.length
  ne : hB ≠ p
  src : ∃ ao cap, Src w p (.slice ao (zs.drop (i / 8)).length cap) ((i % 8 : Nat) : Int) (i : Int) ∧ Row w ao (zs.drop (i / 8)) ∧ (zs.drop (i / 8)).length ≤ cap ∧ ∀ ad, ao = some ad → ad.block = hB
theorem Rd.lt {w : World} {p hB : Nat} {zs : List Int} {i : Nat} (h : Rd w p hB zs i) : p < w.heap.size := by
  obtain ⟨_, _, ao, cap, hs, _⟩ := h
  exact World.block_lt_of_cell? w _ hs.1
theorem Rd.grown {w w' : World} {p hB : Nat} {zs : List Int} {i : Nat} {row : Option Nat} (h : Rd w p hB zs i) (hg : w.grownBy w' row) (hp : some p ≠ row) (hr : some hB ≠ row) : Rd w' p hB zs i := by
  obtain ⟨hl, hne, ao, cap, hs, h1, h2, h3⟩ := h
  exact ⟨hl, hne, ao, cap, hs.grown hg hp, h1.grown hg (fun ad e => by rw [h3 ad e]; exact hr), h2, h3⟩
theorem Rd.below {w w' : World} {p hB : Nat} {zs : List Int} {i : Nat} (h : Rd w p hB zs i) (hb : Below w.heap.size w w') : Rd w' p hB zs i := by
  obtain ⟨hl, hne, ao, cap, hs, h1, h2, h3⟩ := h
  exact ⟨hl, hne, ao, cap, hs.grown (grownBy_of_below hb none) (by simp), h1.below hb, h2, h3⟩
theorem Rd.vld {zs : List Int} {i : Nat} (hl : i ≤ 8 * zs.length) (hz : zs.length ≤ 65536) : vld (zs.drop (i / 8)).length ((i % 8 : Nat) : Int) (i : Int) = true := by
  refine (vld_true ?_).symm
  rw [List.length_drop]
  refine ⟨by omega, by omega, ?_, by omega, by omega, by omega, by omega⟩
  by_cases h : i % 8 = 0
  · left; omega
  · right; omega
theorem add_block (a : Addr) (k : Nat) : (a.add k).block = a.block := by
  unfold Addr.add
  split <;> rfl
theorem cutAt_block {ao : Option Addr} {cap k : Nat} {ad : Addr} (e : cutAt ao cap k = some ad) : ∃ a, ao = some a ∧ ad.block = a.block := by
  unfold cutAt at e
  split at e
  · exact ⟨ad, e, rfl⟩
  · cases ao with
    | none => cases e
    | some a =>
      refine ⟨a, rfl, ?_⟩
      rw [Option.map_some, Option.some.injEq] at e
      rw [← e]
      exact add_block a k
theorem Rd.moved {w w' : World} {p hB : Nat} {zs : List Int} {i n : Nat} {ao : Option Addr} {cap : Nat} (hn : i + n ≤ 8 * zs.length)
    (hs' : Src w' p (.slice (cutAt ao cap ((((i % 8 : Nat) : Int) + (n : Int)) / 8).toNat) ((zs.drop (i / 8)).length - ((((i % 8 : Nat) : Int) + (n : Int)) / 8).toNat) (cap - ((((i % 8 : Nat) : Int) + (n : Int)) / 8).toNat)) ((((i % 8 : Nat) : Int) + (n : Int)) % 8) ((i : Int) + (n : Int)))
    (hr : Row w ao (zs.drop (i / 8))) (hc : (zs.drop (i / 8)).length ≤ cap) (hne : hB ≠ p) (hb : ∀ ad, ao = some ad → ad.block = hB) (hg : w.grownBy w' (some p)) : Rd w' p hB zs (i + n) := by
  have hk : ((((i % 8 : Nat) : Int) + (n : Int)) / 8).toNat = (i % 8 + n) / 8 := by omega
  have hd : (zs.drop (i / 8)).drop ((i % 8 + n) / 8) = zs.drop ((i + n) / 8) := by rw [List.drop_drop]; congr 1; omega
  refine ⟨hn, hne, cutAt ao cap ((i % 8 + n) / 8), cap - (i % 8 + n) / 8, ?_, ?_, ?_, ?_⟩
  · rw [hk] at hs'
    rw [← hd, List.length_drop]
    rw [show ((((i + n) % 8 : Nat)) : Int) = (((i % 8 : Nat) : Int) + (n : Int)) % 8 from by omega, show ((i + n : Nat) : Int) = (i : Int) + (n : Int) from by omega]
    exact hs'
  · rw [← hd]
    exact (hr.cut hc).grown hg (fun ad e he => by
      obtain ⟨a, e1, e2⟩ := cutAt_block e
      exact hne (by rw [← hb a e1, ← e2]; simpa using he))
  · rw [← hd, List.length_drop]; omega
  · intro ad e
    obtain ⟨a, e1, e2⟩ := cutAt_block e
    rw [e2]
    exact hb a e1
/-- take of n bits that are there. -/
theorem rd_take (p hB : Nat) (zs : List Int) (i n : Nat) (w : World) (h : Rd w p hB zs i) (hz : Octets zs) (hzl : zs.length ≤ 65536) (n1 : n ≤ 32) (hn : i + n ≤ 8 * zs.length) :
    Calls Tryd.prog 77 #[.agg #[.pointer (some ⟨p, 0, none⟩)], .int .i64 n] w fun e w' => e = .returned (.tuple #[.int .u64 (field (bnum zs) i n : Nat), .bool true]) ∧ Rd w' p hB zs (i + n) ∧ w.grownBy w' (some p) := by
  obtain ⟨hl, hne, ao, cap, hs, hr, hc, hb⟩ := h
  have hh : hasB (zs.drop (i / 8)).length ((i % 8 : Nat) : Int) (i : Int) (n : Int) = true := by
    rw [List.length_drop, ← hasB_yes (by omega)]
    exact decide_eq_true (by omega)
  refine Calls.mono (take_yes p ao cap (zs.drop (i / 8)) ((i % 8 : Nat) : Int) (i : Int) n w hs hr (hz.drop _) hc (Rd.vld hl hzl) n1 hh) ?_
  rintro e w' ⟨rfl, hs', hg⟩
  exact ⟨by rw [Int.toNat_natCast, field_drop zs hz i n hl], Rd.moved hn hs' hr hc hne hb hg, hg⟩
/-- take of n bits that are not all there. -/
theorem rd_take_no (p hB : Nat) (zs : List Int) (i n : Nat) (w : World) (h : Rd w p hB zs i) (hzl : zs.length ≤ 65536) (n1 : n ≤ 32) (hn : ¬ i + n ≤ 8 * zs.length) :
    Calls Tryd.prog 77 #[.agg #[.pointer (some ⟨p, 0, none⟩)], .int .i64 n] w fun e w' => e = .returned (.tuple #[.int .u64 0, .bool false]) ∧ Below w.heap.size w w' := by
  obtain ⟨hl, hne, ao, cap, hs, hr, hc, hb⟩ := h
  refine take_no p ao (zs.drop (i / 8)).length cap ((i % 8 : Nat) : Int) (i : Int) n w hs (Rd.vld hl hzl) (.inr (.inr ⟨by omega, by omega, ?_⟩))
  exact (hasB_no (by rw [List.length_drop]; omega)).symm
end Go.Proofs.YtlffdadmgginmaeDoor
namespace Go.Proofs.YtlffdadmgginmaeDoor
open Go.RowKit Go.Extern.Stop Go.Stop Go.Extern
set_option linter.unusedVariables false

theorem Tryd.valueOfP (t : Addr) (w : World) : (ReflectliteValue.unpack (.iface 133 (.pointer (some t)))).run Tryd.prog w
    = .ok (.agg #[.pointer (some ⟨3, 133, none⟩), .pointer (some ⟨w.heap.size, 0, none⟩), .int .u64 150]) (w.alloc (.cells #[.pointer (some t)] 133)) := by kernel_rfl
theorem Tryd.valueOfS (c : Int) (w : World) : (ReflectliteValue.unpack (.iface 97 (.agg #[.int .i64 c]))).run Tryd.prog w
    = .ok (.agg #[.pointer (some ⟨3, 97, none⟩), .pointer (some ⟨w.heap.size, 0, none⟩), .int .u64 153]) (w.alloc (.cells #[.int .i64 c] 97)) := by kernel_rfl
theorem Tryd.typeP (a : Addr) (w : World) : (ReflectliteValue.methodAny (ReflectliteValue.valueError "reflectlite.Value.Type" 0) (fun t _ _ _ => ReflectliteType.toType t) #[.agg #[.pointer (some ⟨3, 133, none⟩), .pointer (some a), .int .u64 150]]).run Tryd.prog w
    = .ok (.iface 192 (.agg #[.pointer (some ⟨3, 133, none⟩)])) w := by kernel_rfl
theorem Tryd.kindP (w : World) : ((ReflectliteType.abiMethod fun t => Functor.map (fun a : Nat => Value.int IntKind.u8 (a : Int)) (Rtype.kind t)) #[.pointer (some ⟨3, 133, none⟩)]).run Tryd.prog w = .ok (.int .u8 22) w := by kernel_rfl
theorem Tryd.kindS (w : World) : ((ReflectliteType.abiMethod fun t => Functor.map (fun a : Nat => Value.int IntKind.u8 (a : Int)) (Rtype.kind t)) #[.pointer (some ⟨3, 97, none⟩)]).run Tryd.prog w = .ok (.int .u8 25) w := by kernel_rfl
theorem Tryd.elemTP (w : World) : (ReflectliteType.method ReflectliteType.elem #[.agg #[.pointer (some ⟨3, 133, none⟩)]]).run Tryd.prog w = .ok (.iface 192 (.agg #[.pointer (some ⟨3, 97, none⟩)])) w := by kernel_rfl
theorem Tryd.implS (w : World) : (ReflectliteType.relation "Implements" ReflectliteType.implements_ #[.agg #[.pointer (some ⟨3, 97, none⟩)], .iface 192 (.agg #[.pointer (some ⟨3, 93, none⟩)])]).run Tryd.prog w = .ok (.bool true) w := by kernel_rfl
theorem Tryd.typeOfS (v : Value) (w : World) : (ReflectliteType.typeOf #[.iface 97 v]).run Tryd.prog w = .ok (.iface 192 (.agg #[.pointer (some ⟨3, 97, none⟩)])) w := by kernel_rfl
theorem Tryd.assignS (w : World) : (ReflectliteType.relation "AssignableTo" ReflectliteType.assignableTo #[.agg #[.pointer (some ⟨3, 97, none⟩)], .iface 192 (.agg #[.pointer (some ⟨3, 97, none⟩)])]).run Tryd.prog w = .ok (.bool true) w := by kernel_rfl
theorem Tryd.partsP (a : Addr) (w : World) : (ReflectliteValue.parts (.agg #[.pointer (some ⟨3, 133, none⟩), .pointer (some a), .int .u64 150])).run Tryd.prog w = .ok (some (133, a, 150)) w := by kernel_rfl
theorem Tryd.elemOfP (w : World) : (Rtype.elem? 133).run Tryd.prog w = .ok (some 97) w := by kernel_rfl
theorem Tryd.mkS (p : Addr) (w : World) : (ReflectliteValue.mk 97 p ReflectliteValue.flagAddr).run Tryd.prog w = .ok (.agg #[.pointer (some ⟨3, 97, none⟩), .pointer (some p), .int .u64 409]) w := by kernel_rfl
theorem Tryd.partsSa (a : Addr) (w : World) : (ReflectliteValue.parts (.agg #[.pointer (some ⟨3, 97, none⟩), .pointer (some a), .int .u64 409])).run Tryd.prog w = .ok (some (97, a, 409)) w := by kernel_rfl
theorem Tryd.partsS (a : Addr) (w : World) : (ReflectliteValue.parts (.agg #[.pointer (some ⟨3, 97, none⟩), .pointer (some a), .int .u64 153])).run Tryd.prog w = .ok (some (97, a, 153)) w := by kernel_rfl
theorem Tryd.directS (w : World) : (Rtype.directlyAssignable 97 97).run Tryd.prog w = .ok true w := by kernel_rfl
theorem Tryd.sizeS (w : World) : (sizeOf 97).run Tryd.prog w = .ok 1 w := by kernel_rfl
theorem m_one {motive : Array Value → Sort _} (v : Value) (h1 : (v : Value) → motive #[v]) (h2 : (x : Array Value) → motive x) : ReflectliteValue.method.match_2 motive #[v] h1 h2 = h1 v := rfl
theorem m_two {motive : Array Value → Sort _} (v x : Value) (h1 : (v x : Value) → motive #[v, x]) (h2 : (x : Array Value) → motive x) : ReflectliteValue.set.match_3 motive #[v, x] h1 h2 = h1 v x := rfl
theorem Tryd.isNilP (a p : Addr) (W : World) (ha : W.cell? a = some (.pointer (some p))) :
    (ReflectliteValue.method (ReflectliteValue.valueError "reflectlite.Value.IsNil" 0) ReflectliteValue.isNil #[.agg #[.pointer (some ⟨3, 133, none⟩), .pointer (some a), .int .u64 150]]).run Tryd.prog W = .ok (.bool false) W := by
  unfold ReflectliteValue.method
  rw [m_one]
  simp only [Sem.run_bind]
  have h := Tryd.partsP a W
  simp [h, Result.andThen, ReflectliteValue.isNil, loadVar, isAgg, underlying, Tryd.underlying133, ha]
theorem Tryd.elemVP (a p : Addr) (W : World) (ha : W.cell? a = some (.pointer (some p))) :
    (ReflectliteValue.method (ReflectliteValue.valueError "reflectlite.Value.Elem" 0) ReflectliteValue.elem #[.agg #[.pointer (some ⟨3, 133, none⟩), .pointer (some a), .int .u64 150]]).run Tryd.prog W
      = .ok (.agg #[.pointer (some ⟨3, 97, none⟩), .pointer (some p), .int .u64 409]) W := by
  unfold ReflectliteValue.method
  rw [m_one]
  simp only [Sem.run_bind]
  have h := Tryd.partsP a W
  simp [h, Result.andThen, ReflectliteValue.elem, loadVar, isAgg, underlying, Tryd.underlying133, ha, Tryd.elemOfP, Tryd.mkS]
theorem Tryd.setS (ta b : Addr) (c : Int) (old : Value) (W : World) (hb : W.cell? b = some (.int .i64 c)) (ht : W.cell? ta = some old) (hf : W.frozen? ta = false) :
    (ReflectliteValue.set #[.agg #[.pointer (some ⟨3, 97, none⟩), .pointer (some ta), .int .u64 409], .agg #[.pointer (some ⟨3, 97, none⟩), .pointer (some b), .int .u64 153]]).run Tryd.prog W
      = .ok (.tuple #[]) (W.setCell ta (.int .i64 c)) := by
  unfold ReflectliteValue.set
  rw [m_two]
  simp only [Sem.run_bind]
  have h1 := Tryd.partsSa ta W
  have h2 := Tryd.partsS b W
  have h3 := Tryd.directS W
  have h4 : Sem.run Tryd.prog (loadCells b 1) W = .ok #[.int .i64 c] W := run_loadCells_list (P := Tryd.prog) W b [.int .i64 c] (by
    intro j u hu
    have hj : j = 0 := by
      rcases Nat.eq_zero_or_pos j with h' | h'
      · exact h'
      · rw [List.getElem?_eq_none (by simp; omega)] at hu; cases hu
    subst hj
    simp at hu
    subst hu
    simpa [Addr.add] using hb)
  simp [h1, h2, h3, h4, Result.andThen, ReflectliteValue.flagAddr, loadVar, isAgg, underlying, Tryd.underlying97, storeVar, Value.cells, storeCells, Addr.add]
  rw [run_store Tryd.prog W ta _ _ (by rfl)]
  simp [ht, hf]
end Go.Proofs.YtlffdadmgginmaeDoor
namespace Go.Proofs.YtlffdadmgginmaeDoor
open Go.RowKit Go.Extern.Stop Go.Stop Go.Extern
set_option linter.unusedVariables false

theorem Tryd.mKind (h : Value) (w : World) : (Go.method 360 192 (.agg #[h]) "Kind").run Tryd.prog w = .ok (160, h) w := by kernel_rfl
theorem Tryd.mElem (h : Value) (w : World) : (Go.method 360 192 (.agg #[h]) "Elem").run Tryd.prog w = .ok (171, .agg #[h]) w := by kernel_rfl
theorem Tryd.mImpl (h : Value) (w : World) : (Go.method 360 192 (.agg #[h]) "Implements").run Tryd.prog w = .ok (172, .agg #[h]) w := by kernel_rfl
theorem Tryd.mAssign (h : Value) (w : World) : (Go.method 360 192 (.agg #[h]) "AssignableTo").run Tryd.prog w = .ok (169, .agg #[h]) w := by kernel_rfl
set_option maxRecDepth 10000 in
set_option maxHeartbeats 4000000 in
theorem as_fault (c : Int) (t : Addr) (old : Value) (w : World) (hg : w.cell? ⟨1, 0, none⟩ = some (.iface 192 (.agg #[.pointer (some ⟨3, 93, none⟩)]))) (ht0 : w.cell? t = some old) (hf0 : w.frozen? t = false) :
    Calls Tryd.prog 79 #[.iface 97 (.agg #[.int .i64 c]), .iface 133 (.pointer (some t))] w fun ev w' => ev = .returned (.bool true) ∧ w' = ((((w.alloc (.cells #[.pointer (some t)] 133)).alloc (.cells #[.pointer (some ⟨3, 133, none⟩), .pointer (some ⟨w.heap.size, 0, none⟩), .int .u64 150] 163)).alloc (.cells #[.pointer (some ⟨3, 133, none⟩), .pointer (some ⟨w.heap.size, 0, none⟩), .int .u64 150] 163)).alloc (.cells #[.int .i64 c] 97)).setCell t (.int .i64 c) := by
  have h6 := @run_callFunc_extern Tryd.prog 98 _ (fun args => ReflectliteValue.unpack (args.getD 0 (.tuple #[]))) Tryd.func98 (by kernel_rfl) (by kernel_rfl) (by kernel_rfl) (by kernel_rfl)
  have h7 := @run_callFunc_extern Tryd.prog 99 _ (ReflectliteValue.methodAny (ReflectliteValue.valueError "reflectlite.Value.Type" 0) (fun t _ _ _ => ReflectliteType.toType t)) Tryd.func99 (by kernel_rfl) (by kernel_rfl) (by kernel_rfl) (by kernel_rfl)
  have h8 := @run_callFunc_extern Tryd.prog 100 _ (ReflectliteValue.method (ReflectliteValue.valueError "reflectlite.Value.IsNil" 0) ReflectliteValue.isNil) Tryd.func100 (by kernel_rfl) (by kernel_rfl) (by kernel_rfl) (by kernel_rfl)
  have h10 := @run_callFunc_extern Tryd.prog 127 _ ReflectliteType.typeOf Tryd.func127 (by kernel_rfl) (by kernel_rfl) (by kernel_rfl) (by kernel_rfl)
  have h11 := @run_callFunc_extern Tryd.prog 128 _ (ReflectliteValue.method (ReflectliteValue.valueError "reflectlite.Value.Elem" 0) ReflectliteValue.elem) Tryd.func128 (by kernel_rfl) (by kernel_rfl) (by kernel_rfl) (by kernel_rfl)
  have h12 := @run_callFunc_extern Tryd.prog 129 _ ReflectliteValue.set Tryd.func129 (by kernel_rfl) (by kernel_rfl) (by kernel_rfl) (by kernel_rfl)
  have h27 := @run_callFunc_extern Tryd.prog 160 _ (ReflectliteType.abiMethod fun t => do pure (.int .u8 (← Rtype.kind t))) Tryd.func160 (by kernel_rfl) (by kernel_rfl) (by kernel_rfl) (by kernel_rfl)
  have h37 := @run_callFunc_extern Tryd.prog 171 _ (ReflectliteType.method ReflectliteType.elem) Tryd.func171 (by kernel_rfl) (by kernel_rfl) (by kernel_rfl) (by kernel_rfl)
  have h38 := @run_callFunc_extern Tryd.prog 172 _ (ReflectliteType.relation "Implements" ReflectliteType.implements_) Tryd.func172 (by kernel_rfl) (by kernel_rfl) (by kernel_rfl) (by kernel_rfl)
  have h35 := @run_callFunc_extern Tryd.prog 169 _ (ReflectliteType.relation "AssignableTo" ReflectliteType.assignableTo) Tryd.func169 (by kernel_rfl) (by kernel_rfl) (by kernel_rfl) (by kernel_rfl)
  have tO := Tryd.typeOfS
  have mK := Tryd.mKind
  have mE := Tryd.mElem
  have mI := Tryd.mImpl
  have mA := Tryd.mAssign
  have hlt : 1 < w.heap.size := World.block_lt_of_cell? w _ hg
  have htl : t.block < w.heap.size := World.block_lt_of_cell? w _ ht0
  have n8 := Tryd.isNilP ⟨w.heap.size, 0, none⟩ t ((w.alloc (.cells #[.pointer (some t)] 133)).alloc (.cells #[.pointer (some ⟨3, 133, none⟩), .pointer (some ⟨w.heap.size, 0, none⟩), .int .u64 150] 163)) (by simp)
  have hg2 : ((w.alloc (.cells #[.pointer (some t)] 133)).alloc (.cells #[.pointer (some ⟨3, 133, none⟩), .pointer (some ⟨w.heap.size, 0, none⟩), .int .u64 150] 163)).cell? ⟨1, 0, none⟩ = some (.iface 192 (.agg #[.pointer (some ⟨3, 93, none⟩)])) := by
    rw [World.cell?_alloc_lt _ _ ⟨1, 0, none⟩ (by first | (simp; done) | (simp; omega)), World.cell?_alloc_lt _ _ ⟨1, 0, none⟩ hlt]; exact hg
  have el := Tryd.elemVP ⟨w.heap.size, 0, none⟩ t (((w.alloc (.cells #[.pointer (some t)] 133)).alloc (.cells #[.pointer (some ⟨3, 133, none⟩), .pointer (some ⟨w.heap.size, 0, none⟩), .int .u64 150] 163)).alloc (.cells #[.pointer (some ⟨3, 133, none⟩), .pointer (some ⟨w.heap.size, 0, none⟩), .int .u64 150] 163)) (by rw [World.cell?_alloc_lt _ _ ⟨w.heap.size, 0, none⟩ (by simp; omega)]; simp)
  have st := Tryd.setS t ⟨w.heap.size + 1 + 1 + 1, 0, none⟩ c old ((((w.alloc (.cells #[.pointer (some t)] 133)).alloc (.cells #[.pointer (some ⟨3, 133, none⟩), .pointer (some ⟨w.heap.size, 0, none⟩), .int .u64 150] 163)).alloc (.cells #[.pointer (some ⟨3, 133, none⟩), .pointer (some ⟨w.heap.size, 0, none⟩), .int .u64 150] 163)).alloc (.cells #[.int .i64 c] 97))
    (by rw [World.cell?_alloc_at _ _ _ _ (by simp)]; rfl)
    (by rw [World.cell?_alloc_lt _ _ t (by simp; omega), World.cell?_alloc_lt _ _ t (by simp; omega), World.cell?_alloc_lt _ _ t (by simp; omega), World.cell?_alloc_lt _ _ t htl]; exact ht0)
    (by rw [World.frozen?_alloc_old _ _ t (by simp; omega), World.frozen?_alloc_old _ _ t (by simp; omega), World.frozen?_alloc_old _ _ t (by simp; omega), World.frozen?_alloc_old _ _ t (Nat.ne_of_lt htl)]; exact hf0)
  have a25 := Tryd.assignS
  have v25 := Tryd.valueOfS
  have f6 := Tryd.valueOfP
  have f7 := Tryd.typeP
  have k27 := Tryd.kindP
  have k25 := Tryd.kindS
  have e27 := Tryd.elemTP
  have i25 := Tryd.implS
  go_enter Tryd.func79, Tryd.ntmps79
  go_wp2
  refine wp_loop_rounds 1 ?_
  rw [rounds_succ]
  go_wp2
  go_ret
  exact ⟨rfl, rfl⟩
end Go.Proofs.YtlffdadmgginmaeDoor
namespace Go.Proofs.YtlffdadmgginmaeDoor
open Go.RowKit
attribute [local go_sem ↓] Go.wp_at_zero Go.wp_at_succ
set_option linter.unusedVariables false

/-- A fault as an error. -/
def flt (c : Int) : Value := .iface 97 (.agg #[.int .i64 c])
set_option maxHeartbeats 3200000 in
theorem number_yes (q p hB : Nat) (zs : List Int) (i n : Nat) (w : World) (hm : w.cell? ⟨q, 0, none⟩ = some (.pointer (some ⟨p, 0, none⟩))) (h : Rd w p hB zs i) (hz : Octets zs) (hzl : zs.length ≤ 65536) (n1 : n ≤ 32) (hn : i + n ≤ 8 * zs.length) :
    Calls Tryd.prog 51 #[.pointer (some ⟨q, 0, none⟩), .int .i64 n] w fun e w' => e = .returned (.tuple #[.int .i64 (field (bnum zs) i n : Nat), .nilIface]) ∧ Rd w' p hB zs (i + n) ∧ w.grownBy w' (some p) := by
  have HT := hideM (rd_take p hB zs i n w h hz hzl n1 hn)
  have hqw := World.block_lt_of_cell? w _ hm
  have hf : field (bnum zs) i n < 2 ^ 32 := Nat.lt_of_lt_of_le (field_lt _ _ _) (Nat.pow_le_pow_right (by decide) n1)
  clear h
  generalize field (bnum zs) i n = F at *
  go_enter Tryd.func51, Tryd.ntmps51
  go_wp2_with fail
  refine Calls.mono HT.out ?_
  rintro e w' ⟨rfl, hR, hg⟩
  have HR := hideM hR
  have HG := hideM hg
  have hw : IntKind.i64.wrap (F : Int) = (F : Int) := by rw [IntKind.wrap_i64]; omega
  clear hR hg HT hf
  go_wp2_with fail
  exact bodyPost_ret (v := .tuple #[.int .i64 F, .nilIface]) (by simp [results, Tryd.results51, go_sem]) rfl ⟨rfl, HR.out, HG.out⟩
set_option maxHeartbeats 3200000 in
theorem number_no (q p hB : Nat) (zs : List Int) (i n : Nat) (w : World) (hm : w.cell? ⟨q, 0, none⟩ = some (.pointer (some ⟨p, 0, none⟩))) (h : Rd w p hB zs i) (hzl : zs.length ≤ 65536) (n1 : n ≤ 32) (hn : ¬ i + n ≤ 8 * zs.length) :
    Calls Tryd.prog 51 #[.pointer (some ⟨q, 0, none⟩), .int .i64 n] w fun e w' => e = .returned (.tuple #[.int .i64 0, flt 2]) ∧ Below w.heap.size w w' := by
  have HT := hideM (rd_take_no p hB zs i n w h hzl n1 hn)
  have hqw := World.block_lt_of_cell? w _ hm
  clear h
  go_enter Tryd.func51, Tryd.ntmps51
  go_wp2_with fail
  refine Calls.mono HT.out ?_
  rintro e w' ⟨rfl, hb⟩
  have HB := hideM hb
  clear hb HT
  go_wp2_with fail
  exact bodyPost_ret (v := .tuple #[.int .i64 0, flt 2]) (by simp [results, Tryd.results51, go_sem, flt]) rfl ⟨rfl, HB.out⟩
/-- A function value stored in one cell. -/
theorem store_func (W : World) (a : Addr) (f : Fn) (x y : Array Value) (old : Value) (h : W.cell? a = some old) (hf : W.frozen? a = false) : Sem.run Tryd.prog (store a (.func f x y)) W = .ok () (W.setCell a (.func f x y)) := by
  rw [run_store Tryd.prog W a _ _ (by rfl)]
  simp [h, hf]
theorem grownBy_allocs (w : World) (a b c d : Obj) (r : Option Nat) : w.grownBy ((((w.alloc a).alloc b).alloc c).alloc d) r :=
  grownBy_trans (grownBy_trans (grownBy_trans (World.grownBy_alloc w a r) (World.grownBy_alloc _ b r)) (World.grownBy_alloc _ c r)) (World.grownBy_alloc _ d r)
/-- errors.As at a fault: the variable has it, nothing else has turned. -/
theorem as_fault2 (c : Int) (g : Nat) (old : Value) (w : World) (hg : w.cell? ⟨1, 0, none⟩ = some (.iface 192 (.agg #[.pointer (some ⟨3, 93, none⟩)]))) (ht0 : w.cell? ⟨g, 0, none⟩ = some old) (hf0 : w.frozen? ⟨g, 0, none⟩ = false) :
    Calls Tryd.prog 79 #[.iface 97 (.agg #[.int .i64 c]), .iface 133 (.pointer (some ⟨g, 0, none⟩))] w fun ev w' => ev = .returned (.bool true) ∧ w'.cell? ⟨g, 0, none⟩ = some (.int .i64 c) ∧ w.grownBy w' (some g) := by
  refine Calls.mono (as_fault c ⟨g, 0, none⟩ old w hg ht0 hf0) ?_
  rintro e w' ⟨rfl, rfl⟩
  have h1 := grownBy_allocs w (.cells #[.pointer (some ⟨g, 0, none⟩)] 133) (.cells #[.pointer (some ⟨3, 133, none⟩), .pointer (some ⟨w.heap.size, 0, none⟩), .int .u64 150] 163) (.cells #[.pointer (some ⟨3, 133, none⟩), .pointer (some ⟨w.heap.size, 0, none⟩), .int .u64 150] 163) (.cells #[.int .i64 c] 97)
  refine ⟨rfl, ?_, grownBy_trans (h1 _) (grownBy_setCell _ ⟨g, 0, none⟩ _)⟩
  exact World.cell?_setCell_same _ _ _ ((h1 none).cell ht0 (by simp))
theorem cell_fault (w : World) (c : Int) : ∃ old, (w.alloc (.cells #[.int .i64 c] 97)).cell? ⟨w.heap.size, 0, none⟩ = some old ∧ (w.alloc (.cells #[.int .i64 c] 97)).frozen? ⟨w.heap.size, 0, none⟩ = false := ⟨.int .i64 c, by simp [go_sem], by simp [go_sem]⟩
set_option maxHeartbeats 3200000 in
/-- stopAt where input is missing: the state is kept. -/
theorem stopAt_short (q : Nat) (w : World) (hq : q < w.heap.size) (hg : w.cell? ⟨1, 0, none⟩ = some (.iface 192 (.agg #[.pointer (some ⟨3, 93, none⟩)]))) :
    Calls Tryd.prog 53 #[.pointer (some ⟨q, 0, none⟩), flt 2] w fun e w' => e = .returned (.int .i64 2) ∧ Below w.heap.size w w' := by
  have hlt : 1 < w.heap.size := World.block_lt_of_cell? w _ hg
  obtain ⟨w1, hw1⟩ : ∃ w1, w.alloc (.cells #[.int .i64 0] 97) = w1 := ⟨_, rfl⟩
  have c1 : w1.cell? ⟨w.heap.size, 0, none⟩ = some (.int .i64 0) := by rw [← hw1]; simp [go_sem]
  have f1 : w1.frozen? ⟨w.heap.size, 0, none⟩ = false := by rw [← hw1]; simp [go_sem]
  have g1 : w1.cell? ⟨1, 0, none⟩ = some (.iface 192 (.agg #[.pointer (some ⟨3, 93, none⟩)])) := by rw [← hw1, World.cell?_alloc_lt _ _ ⟨1, 0, none⟩ hlt]; exact hg
  have HA := hideM (as_fault2 2 w.heap.size (.int .i64 0) w1 g1 c1 f1)
  have HB1 : Hid (Below w.heap.size w w1) := by rw [← hw1]; exact (Below.refl _ _).alloc (Nat.le_refl _) _
  have hs1 : w.heap.size < w1.heap.size := World.block_lt_of_cell? w1 _ c1
  clear g1 c1 f1
  unfold flt
  go_enter Tryd.func53, Tryd.ntmps53
  go_wp2_with fail
  refine Calls.mono HA.out ?_
  rintro e w2 ⟨rfl, c2, hg2⟩
  have HB2 := hideM (HB1.out.grown hg2 (Nat.le_of_lt hs1) (fun k e => by simp at e; omega))
  have hs2 := hg2.size
  clear hg2 HA hw1
  go_wp2_with fail
  go_ret
  exact ⟨rfl, HB2.out⟩
set_option maxHeartbeats 3200000 in
/-- stopAt at any other fault: its own state is laid. -/
theorem stopAt_bad (q : Nat) (c : Int) (old : Value) (w : World) (hc : ¬ c = 2) (h1 : w.cell? ⟨q, 1, none⟩ = some old) (hf : w.frozen? ⟨q, 1, none⟩ = false) (hg : w.cell? ⟨1, 0, none⟩ = some (.iface 192 (.agg #[.pointer (some ⟨3, 93, none⟩)]))) :
    Calls Tryd.prog 53 #[.pointer (some ⟨q, 0, none⟩), flt c] w fun e w' => e = .returned (.int .i64 c) ∧ ∃ w2 v, Below w.heap.size w w2 ∧ w' = w2.setCell ⟨q, 1, none⟩ v := by
  have hlt : 1 < w.heap.size := World.block_lt_of_cell? w _ hg
  have hq : q < w.heap.size := World.block_lt_of_cell? w _ h1
  obtain ⟨w1, hw1⟩ : ∃ w1, w.alloc (.cells #[.int .i64 0] 97) = w1 := ⟨_, rfl⟩
  have c1 : w1.cell? ⟨w.heap.size, 0, none⟩ = some (.int .i64 0) := by rw [← hw1]; simp [go_sem]
  have f1 : w1.frozen? ⟨w.heap.size, 0, none⟩ = false := by rw [← hw1]; simp [go_sem]
  have g1 : w1.cell? ⟨1, 0, none⟩ = some (.iface 192 (.agg #[.pointer (some ⟨3, 93, none⟩)])) := by rw [← hw1, World.cell?_alloc_lt _ _ ⟨1, 0, none⟩ hlt]; exact hg
  have HA := hideM (as_fault2 c w.heap.size (.int .i64 0) w1 g1 c1 f1)
  have hB1 : Below w.heap.size w w1 := by rw [← hw1]; exact (Below.refl _ _).alloc (Nat.le_refl _) _
  have hs1 : w.heap.size < w1.heap.size := World.block_lt_of_cell? w1 _ c1
  have HB1 := hideM hB1
  have hcb : (c == 2) = false := by simp [hc]
  have hcn : (c != 2) = true := by simp [hc]
  clear g1 c1 f1 hB1
  unfold flt
  go_enter Tryd.func53, Tryd.ntmps53
  go_wp2_with fail
  refine Calls.mono HA.out ?_
  rintro e w2 ⟨rfl, c2, hg2⟩
  have hB2 := HB1.out.grown hg2 (Nat.le_of_lt hs1) (fun k e => by simp at e; omega)
  have d1 := (hB2.cell (p := ⟨q, 1, none⟩) hq).trans h1
  have e1 := (hB2.frozen (p := ⟨q, 1, none⟩) hq).trans hf
  have HG2 := hideM hB2
  have hs2 := hg2.size
  have hqn : w.heap.size ≠ q := by omega
  have hst := fun x => store_func w2 ⟨q, 1, none⟩ (Fn.func 80) x #[] old d1 e1
  clear hg2 HA hw1 hB2 h1 hf
  go_wp2_with fail
  go_ret
  exact ⟨rfl, _, _, HG2.out, rfl⟩
end Go.Proofs.YtlffdadmgginmaeDoor
/-
  LENGTHS OF CODES: counts, the sum of 2^(15 - length), the kind. No program.
-/
namespace Go.Proofs.YtlffdadmgginmaeDoor
open Go.RowKit

/-- How many have the length l. -/
def cnt (zs : List Int) (l : Nat) : Nat := zs.countP (fun z => z == (l : Int))
theorem cnt_nil (l : Nat) : cnt [] l = 0 := rfl
theorem cnt_app (zs : List Int) (z : Int) (l : Nat) : cnt (zs ++ [z]) l = cnt zs l + if z = (l : Int) then 1 else 0 := by
  simp only [cnt, List.countP_append, List.countP_cons, List.countP_nil, Nat.zero_add]
  congr 1
  by_cases h : z = (l : Int) <;> simp [h]
theorem cnt_le (zs : List Int) (l : Nat) : cnt zs l ≤ zs.length := List.countP_le_length

/-- Sums over the lengths 1 .. n. -/
def sumTo (f : Nat → Nat) : Nat → Nat
  | 0 => 0
  | n + 1 => sumTo f n + f (n + 1)
theorem sumTo_add (f g : Nat → Nat) (n : Nat) : sumTo (fun l => f l + g l) n = sumTo f n + sumTo g n := by
  induction n with
  | zero => rfl
  | succ n ih => simp only [sumTo, ih]; omega
theorem sumTo_zero (n : Nat) : sumTo (fun _ => 0) n = 0 := by
  induction n with
  | zero => rfl
  | succ n ih => simp only [sumTo, ih]
theorem sumTo_one (f : Nat → Nat) (z n : Nat) : sumTo (fun l => if z = l then f l else 0) n = if 1 ≤ z ∧ z ≤ n then f z else 0 := by
  induction n with
  | zero => simp only [sumTo]; rw [if_neg (by omega)]
  | succ n ih =>
    simp only [sumTo, ih]
    by_cases h : z = n + 1
    · subst h; rw [if_neg (by omega), if_pos rfl, if_pos (by omega)]; omega
    · rw [if_neg h]
      by_cases h2 : 1 ≤ z ∧ z ≤ n
      · rw [if_pos h2, if_pos (by omega)]; rfl
      · rw [if_neg h2, if_neg (by omega)]
theorem sumTo_congr {f g : Nat → Nat} {n : Nat} (h : ∀ l, l ≤ n → f l = g l) : sumTo f n = sumTo g n := by
  induction n with
  | zero => rfl
  | succ n ih => simp only [sumTo, ih (fun l hl => h l (by omega)), h (n + 1) (Nat.le_refl _)]

/-- All are lengths. -/
def okL (zs : List Int) : Prop := ∀ z ∈ zs, 0 ≤ z ∧ z ≤ 15
/-- How many have a code; the sum. -/
def nz : List Int → Nat
  | [] => 0
  | z :: zs => (if 0 < z then 1 else 0) + nz zs
def kr : List Int → Nat
  | [] => 0
  | z :: zs => (if 0 < z then 2 ^ (15 - z.toNat) else 0) + kr zs
theorem nz_app (zs : List Int) (z : Int) : nz (zs ++ [z]) = nz zs + if 0 < z then 1 else 0 := by
  induction zs with
  | nil => simp [nz]
  | cons a zs ih => simp only [List.cons_append, nz, ih]; omega
theorem kr_app (zs : List Int) (z : Int) : kr (zs ++ [z]) = kr zs + if 0 < z then 2 ^ (15 - z.toNat) else 0 := by
  induction zs with
  | nil => simp [kr]
  | cons a zs ih => simp only [List.cons_append, kr, ih]; omega
theorem nz_le (zs : List Int) : nz zs ≤ zs.length := by
  induction zs with
  | nil => exact Nat.le_refl _
  | cons z zs ih => simp only [nz, List.length_cons]; split <;> omega
theorem pow_le (z : Int) : (if 0 < z then 2 ^ (15 - z.toNat) else 0) ≤ 16384 := by
  split
  · have : (2 : Nat) ^ (15 - z.toNat) ≤ 2 ^ 14 := Nat.pow_le_pow_right (by omega) (by omega)
    omega
  · omega
theorem kr_le (zs : List Int) : kr zs ≤ 16384 * zs.length := by
  induction zs with
  | nil => simp [kr]
  | cons z zs ih => have := pow_le z; simp only [kr, List.length_cons]; omega
theorem cnt_cons (z : Int) (zs : List Int) (l : Nat) : cnt (z :: zs) l = cnt zs l + if z = (l : Int) then 1 else 0 := by
  simp only [cnt, List.countP_cons]
  congr 1
  by_cases h : z = (l : Int) <;> simp [h]
theorem nz_cnt (zs : List Int) (h : okL zs) : nz zs = sumTo (cnt zs) 15 := by
  induction zs with
  | nil => rw [show cnt [] = fun _ => 0 from funext cnt_nil, sumTo_zero]; rfl
  | cons z zs ih =>
    have hz := h z (by simp)
    obtain ⟨k, rfl⟩ : ∃ k : Nat, z = k := ⟨z.toNat, by omega⟩
    have e : cnt ((k : Int) :: zs) = fun l => cnt zs l + if k = l then 1 else 0 := by
      funext l; rw [cnt_cons]; simp only [Int.ofNat_inj]
    rw [e, sumTo_add, sumTo_one (fun _ => 1), nz, ih (fun x hx => h x (by simp [hx]))]
    by_cases hk : 0 < k
    · rw [if_pos (by omega), if_pos (by omega)]; omega
    · rw [if_neg (by omega), if_neg (by omega)]; omega
theorem kr_cnt (zs : List Int) (h : okL zs) : kr zs = sumTo (fun l => cnt zs l * 2 ^ (15 - l)) 15 := by
  induction zs with
  | nil => rw [show (fun l => cnt [] l * 2 ^ (15 - l)) = fun _ => 0 from funext (fun l => by rw [cnt_nil, Nat.zero_mul]), sumTo_zero]; rfl
  | cons z zs ih =>
    have hz := h z (by simp)
    obtain ⟨k, rfl⟩ : ∃ k : Nat, z = k := ⟨z.toNat, by omega⟩
    have e : (fun l => cnt ((k : Int) :: zs) l * 2 ^ (15 - l)) = fun l => cnt zs l * 2 ^ (15 - l) + if k = l then 2 ^ (15 - l) else 0 := by
      funext l
      rw [cnt_cons, Nat.add_mul]
      simp only [Int.ofNat_inj]
      by_cases hkl : k = l
      · rw [if_pos hkl, if_pos hkl, Nat.one_mul]
      · rw [if_neg hkl, if_neg hkl, Nat.zero_mul]
    rw [e, sumTo_add, sumTo_one (fun l => 2 ^ (15 - l)), kr, ih (fun x hx => h x (by simp [hx]))]
    by_cases hk : 0 < k
    · rw [if_pos (by omega), if_pos (by omega), Int.toNat_natCast]; omega
    · rw [if_neg (by omega), if_neg (by omega)]; omega
theorem none_has (zs : List Int) (h : okL zs) (h0 : nz zs = 0) : kr zs = 0 ∧ cnt zs 1 = 0 := by
  induction zs with
  | nil => exact ⟨rfl, rfl⟩
  | cons z zs ih =>
    simp only [nz] at h0
    have hz : ¬ 0 < z := by intro hz; rw [if_pos hz] at h0; omega
    rw [if_neg hz] at h0
    obtain ⟨h1, h2⟩ := ih (fun x hx => h x (by simp [hx])) (by omega)
    refine ⟨by simp only [kr]; rw [if_neg hz, h1], ?_⟩
    rw [cnt_cons, h2, if_neg (by simp; omega)]
theorem one_has (zs : List Int) (h : okL zs) (h0 : nz zs = 1) : kr zs = 16384 ↔ cnt zs 1 = 1 := by
  induction zs with
  | nil => simp [nz] at h0
  | cons z zs ih =>
    have ho : okL zs := fun x hx => h x (by simp [hx])
    simp only [nz] at h0
    by_cases hz : 0 < z
    · rw [if_pos hz] at h0
      obtain ⟨h1, h2⟩ := none_has zs ho (by omega)
      have hl := h z (by simp)
      obtain ⟨k, rfl⟩ : ∃ k : Nat, z = k := ⟨z.toNat, by omega⟩
      simp only [kr]
      rw [if_pos hz, h1, cnt_cons, h2, Int.toNat_natCast]
      have hk : k = 1 ∨ k = 2 ∨ k = 3 ∨ k = 4 ∨ k = 5 ∨ k = 6 ∨ k = 7 ∨ k = 8 ∨ k = 9 ∨ k = 10 ∨ k = 11 ∨ k = 12 ∨ k = 13 ∨ k = 14 ∨ k = 15 := by omega
      rcases hk with rfl | rfl | rfl | rfl | rfl | rfl | rfl | rfl | rfl | rfl | rfl | rfl | rfl | rfl | rfl <;> decide
    · rw [if_neg hz] at h0
      simp only [kr]
      rw [if_neg hz, cnt_cons, if_neg (by simp; omega), Nat.zero_add, Nat.add_zero]
      exact ih ho (by omega)

/-- HuffKind of lengths that are valid. -/
def hkind (n k : Nat) : Int := if n = 0 then 5 else if 32768 < k then 2 else if k = 32768 then 1 else if n = 1 ∧ k = 16384 then 4 else 3
/-- HuffKind. -/
def okB (zs : List Int) : Bool := decide (zs.length ≤ 320) && zs.all (fun z => decide (0 ≤ z) && decide (z ≤ 15))
def hk (zs : List Int) : Int := if okB zs then hkind (nz zs) (kr zs) else 0
theorem okB_ok {zs : List Int} (h : okB zs = true) : zs.length ≤ 320 ∧ okL zs := by
  simp only [okB, Bool.and_eq_true, decide_eq_true_eq, List.all_eq_true] at h
  exact ⟨h.1, fun z hz => by have := h.2 z hz; simpa using this⟩
theorem okB_of {zs : List Int} (h1 : zs.length ≤ 320) (h2 : okL zs) : okB zs = true := by
  simp only [okB, Bool.and_eq_true, decide_eq_true_eq, List.all_eq_true]
  exact ⟨h1, fun z hz => by have := h2 z hz; simpa using this⟩
theorem okB_long {zs : List Int} (h1 : ¬ zs.length ≤ 320) : okB zs = false := by
  cases h : okB zs with
  | false => rfl
  | true => exact absurd (okB_ok h).1 h1
theorem okB_bad {zs : List Int} {i : Nat} (hi : i < zs.length) (h1 : ¬ (0 ≤ zs.getD i 0 ∧ zs.getD i 0 ≤ 15)) : okB zs = false := by
  cases h : okB zs with
  | false => rfl
  | true =>
    refine absurd ((okB_ok h).2 zs[i] (List.getElem_mem hi)) ?_
    simpa [List.getD, hi] using h1
theorem take_snoc (zs : List Int) (k : Nat) (h : k < zs.length) : zs.take (k + 1) = zs.take k ++ [zs.getD k 0] := by
  rw [List.take_succ_eq_append_getElem h]
  simp [List.getD, h]
theorem okL_take_succ {zs : List Int} {k : Nat} (h : k < zs.length) (ho : okL (zs.take k)) (h1 : 0 ≤ zs.getD k 0 ∧ zs.getD k 0 ≤ 15) : okL (zs.take (k + 1)) := by
  rw [take_snoc zs k h]
  intro z hz
  rcases List.mem_append.1 hz with hz | hz
  · exact ho z hz
  · have : z = zs.getD k 0 := by simpa using hz
    rw [this]; exact h1
end Go.Proofs.YtlffdadmgginmaeDoor
/-
  BITS TURNED ROUND: the six steps of math/bits.Reverse64, and the turning of the lowest bits one by one. No program.
-/
namespace Go.Proofs.YtlffdadmgginmaeDoor
open Go.RowKit

/-- One step: neighbours of s bits change places. -/
def swp (s m x : Nat) : Nat := (x >>> s &&& m) ||| ((x &&& m) <<< s)
/-- Where bit i comes from. -/
def frm (s m i : Nat) : Nat := if m.testBit i then i + s else i - s
/-- The mask has i, or it has i - s and not i. -/
def fine (s m i : Nat) : Bool := if m.testBit i then (i < s || !m.testBit (i - s)) else (decide (s ≤ i) && m.testBit (i - s))
theorem swp_bit (s m x i : Nat) (h : fine s m i = true) : (swp s m x).testBit i = x.testBit (frm s m i) := by
  unfold swp frm
  unfold fine at h
  rw [Nat.testBit_or, Nat.testBit_and, Nat.testBit_shiftRight, Nat.testBit_shiftLeft, Nat.testBit_and]
  by_cases hm : m.testBit i = true
  · rw [if_pos hm] at h ⊢
    rw [hm, Bool.and_true, Nat.add_comm i s]
    by_cases hs : i < s
    · have : decide (i ≥ s) = false := decide_eq_false (by omega)
      rw [this, Bool.false_and, Bool.or_false]
    · have h2 : m.testBit (i - s) = false := by simpa [hs] using h
      rw [h2, Bool.and_false, Bool.and_false, Bool.or_false]
  · rw [if_neg hm] at h ⊢
    simp only [Bool.and_eq_true, decide_eq_true_eq] at h
    have hm' : m.testBit i = false := by simpa using hm
    have : decide (i ≥ s) = true := decide_eq_true h.1
    rw [hm', Bool.and_false, Bool.false_or, this, Bool.true_and, h.2, Bool.and_true]

def m1 : Nat := 6148914691236517205
def m2 : Nat := 3689348814741910323
def m4 : Nat := 1085102592571150095
def m8 : Nat := 71777214294589695
def m16 : Nat := 281470681808895
def m32 : Nat := 4294967295
/-- Reverse64. -/
def rev64 (x : Nat) : Nat := swp 32 m32 (swp 16 m16 (swp 8 m8 (swp 4 m4 (swp 2 m2 (swp 1 m1 x)))))
theorem rev_way : ∀ i, i < 64 → fine 32 m32 i = true ∧ fine 16 m16 (frm 32 m32 i) = true ∧ fine 8 m8 (frm 16 m16 (frm 32 m32 i)) = true ∧ fine 4 m4 (frm 8 m8 (frm 16 m16 (frm 32 m32 i))) = true ∧
    fine 2 m2 (frm 4 m4 (frm 8 m8 (frm 16 m16 (frm 32 m32 i)))) = true ∧ fine 1 m1 (frm 2 m2 (frm 4 m4 (frm 8 m8 (frm 16 m16 (frm 32 m32 i))))) = true ∧
    frm 1 m1 (frm 2 m2 (frm 4 m4 (frm 8 m8 (frm 16 m16 (frm 32 m32 i))))) = 63 - i := by decide +kernel
theorem rev_bit (x i : Nat) (h : i < 64) : (rev64 x).testBit i = x.testBit (63 - i) := by
  obtain ⟨h1, h2, h3, h4, h5, h6, h7⟩ := rev_way i h
  unfold rev64
  rw [swp_bit _ _ _ _ h1, swp_bit _ _ _ _ h2, swp_bit _ _ _ _ h3, swp_bit _ _ _ _ h4, swp_bit _ _ _ _ h5, swp_bit _ _ _ _ h6, h7]

/-- The n lowest bits of x turned round, behind what is there. -/
def turn : Nat → Nat → Nat → Nat
  | _, 0, o => o
  | x, n + 1, o => turn (x / 2) n (2 * o + x % 2)
theorem turn_lt (x n o k : Nat) (h : o < 2 ^ k) : turn x n o < 2 ^ (k + n) := by
  induction n generalizing x o k with
  | zero => exact h
  | succ n ih =>
    rw [turn, show k + (n + 1) = (k + 1) + n by omega]
    refine ih _ _ _ ?_
    rw [Nat.pow_succ]
    omega
theorem turn_bit (x n o i : Nat) : (turn x n o).testBit i = if i < n then x.testBit (n - 1 - i) else o.testBit (i - n) := by
  induction n generalizing x o with
  | zero => simp [turn]
  | succ n ih =>
    rw [turn, ih]
    by_cases h : i < n
    · rw [if_pos h, if_pos (by omega), show n + 1 - 1 - i = (n - 1 - i) + 1 by omega, Nat.testBit_succ]
    · rw [if_neg h]
      by_cases h2 : i = n
      · subst h2
        rw [if_pos (by omega), show i + 1 - 1 - i = 0 by omega, Nat.sub_self]
        rw [Nat.testBit_zero, Nat.testBit_zero, show (2 * o + x % 2) % 2 = x % 2 by omega]
      · rw [if_neg (by omega), show i - n = (i - (n + 1)) + 1 by omega, Nat.testBit_succ]
        congr 1
        omega
/-- The code turned round. -/
def tr (x l : Nat) : Nat := turn x l 0
theorem tr_lt (x l : Nat) : tr x l < 2 ^ l := by
  have := turn_lt x l 0 0 (by decide)
  rw [Nat.zero_add] at this
  exact this
theorem swp_lt (s m x : Nat) (hm : m < 2 ^ 64) (h2 : m <<< s < 2 ^ 64) : swp s m x < 2 ^ 64 := by
  unfold swp
  refine Nat.or_lt_two_pow (Nat.lt_of_le_of_lt Nat.and_le_right hm) ?_
  refine Nat.lt_of_le_of_lt ?_ h2
  rw [Nat.shiftLeft_eq, Nat.shiftLeft_eq]
  exact Nat.mul_le_mul_right _ Nat.and_le_right
theorem rev_lt (x : Nat) : rev64 x < 2 ^ 64 := swp_lt _ _ _ (by decide) (by decide)
theorem rev_turn (x l : Nat) (h : l ≤ 64) : rev64 x >>> (64 - l) = tr x l := by
  apply Nat.eq_of_testBit_eq
  intro i
  rw [Nat.testBit_shiftRight, tr, turn_bit]
  by_cases hi : i < l
  · rw [if_pos hi, rev_bit x _ (by omega)]
    congr 1
    omega
  · rw [if_neg hi, Nat.zero_testBit]
    exact Nat.testBit_lt_two_pow (Nat.lt_of_lt_of_le (rev_lt x) (Nat.pow_le_pow_right (by decide) (by omega)))
end Go.Proofs.YtlffdadmgginmaeDoor
/-
  CODES IN A ROW: the codes of all symbols, each as an interval of the numbers below 2^15, lie one behind the other without a gap. No program.
  What stands: intervals are apart (cov_one), they fill all below the sum (cov_ex), what a code's bits say of the number of the next fifteen bits (tr_div, cov_iff).
-/
namespace Go.Proofs.YtlffdadmgginmaeDoor
open Go.RowKit

/-- The first code of each length (as HC has it). -/
def fs (f : Nat → Nat) : Nat → Nat
  | 0 => 0
  | 1 => 0
  | l + 2 => 2 * (fs f (l + 1) + f (l + 1))
/-- The length of symbol i. -/
def ln (zs : List Int) (i : Nat) : Nat := (zs.getD i 0).toNat
/-- Its code as a number, the first bit the highest. -/
def num (zs : List Int) (i : Nat) : Nat := fs (cnt zs) (ln zs i) + cnt (zs.take i) (ln zs i)
/-- How far the codes of the lengths up to l reach. -/
def SS (zs : List Int) (l : Nat) : Nat := sumTo (fun m => cnt zs m * 2 ^ (15 - m)) l
theorem SS_succ (zs : List Int) (l : Nat) : SS zs (l + 1) = SS zs l + cnt zs (l + 1) * 2 ^ (15 - (l + 1)) := rfl
theorem SS_mono (zs : List Int) {l m : Nat} (h : l ≤ m) : SS zs l ≤ SS zs m := by
  induction h with
  | refl => exact Nat.le_refl _
  | step _ ih => exact Nat.le_trans ih (by rw [SS_succ]; exact Nat.le_add_right _ _)
theorem fs_SS (zs : List Int) : ∀ k, k ≤ 14 → fs (cnt zs) (k + 1) * 2 ^ (14 - k) = SS zs k
  | 0, _ => by simp [fs, SS, sumTo]
  | k + 1, h => by
    have ih := fs_SS zs k (by omega)
    have e : 2 ^ (14 - k) = 2 * 2 ^ (14 - (k + 1)) := by rw [show 14 - k = (14 - (k + 1)) + 1 by omega, Nat.pow_succ]; omega
    rw [SS_succ, ← ih, show 15 - (k + 1) = 14 - k by omega, fs, ← Nat.add_mul, e, Nat.mul_comm 2 (fs _ _ + _), Nat.mul_assoc]
theorem cnt_take_le (zs : List Int) (k l : Nat) : cnt (zs.take k) l ≤ cnt zs l := by
  unfold cnt
  exact List.Sublist.countP_le (List.take_sublist k zs)
theorem cnt_step (zs : List Int) {i : Nat} (hi : i < zs.length) {l : Nat} (hl : zs.getD i 0 = (l : Int)) : cnt (zs.take (i + 1)) l = cnt (zs.take i) l + 1 := by
  rw [take_snoc zs i hi, cnt_app, if_pos hl]
theorem cnt_take_mono (zs : List Int) (l : Nat) {i j : Nat} (h : i ≤ j) : cnt (zs.take i) l ≤ cnt (zs.take j) l := by
  have e : zs.take i = (zs.take j).take i := by rw [List.take_take, Nat.min_eq_left h]
  rw [e]
  exact cnt_take_le _ _ _
/-- Symbol i has a code. -/
structure Coded (zs : List Int) (i : Nat) : Prop where
  lt : i < zs.length
  is : zs.getD i 0 = (ln zs i : Int)
  pos : 1 ≤ ln zs i
  most : ln zs i ≤ 15
theorem Coded.of {zs : List Int} (ho : okL zs) {i : Nat} (hi : i < zs.length) (h0 : ln zs i ≠ 0) : Coded zs i := by
  have h := ho zs[i] (List.getElem_mem hi)
  have e : zs[i] = zs.getD i 0 := by simp [List.getD, hi]
  rw [e] at h
  unfold ln at h0
  exact ⟨hi, by unfold ln; omega, by unfold ln; omega, by unfold ln; omega⟩
/-- Where its interval begins. -/
def bg (zs : List Int) (i : Nat) : Nat := num zs i * 2 ^ (15 - ln zs i)
theorem bg_eq {zs : List Int} {i : Nat} (h : Coded zs i) : bg zs i = SS zs (ln zs i - 1) + cnt (zs.take i) (ln zs i) * 2 ^ (15 - ln zs i) := by
  obtain ⟨k, hk⟩ : ∃ k, ln zs i = k + 1 := ⟨ln zs i - 1, by have := h.pos; omega⟩
  have h15 := h.most
  have e := fs_SS zs k (by omega)
  unfold bg num
  rw [hk, Nat.add_mul, show 15 - (k + 1) = 14 - k by omega, e]
  rfl
theorem bg_end {zs : List Int} {i : Nat} (h : Coded zs i) : bg zs i + 2 ^ (15 - ln zs i) ≤ SS zs (ln zs i) := by
  have h1 := cnt_step zs h.lt h.is
  have h2 := cnt_take_le zs (i + 1) (ln zs i)
  have h3 := bg_eq h
  obtain ⟨k, hk⟩ : ∃ k, ln zs i = k + 1 := ⟨ln zs i - 1, by have := h.pos; omega⟩
  rw [hk] at h1 h2 h3 ⊢
  rw [SS_succ, h3, show k + 1 - 1 = k by omega, Nat.add_assoc]
  refine Nat.add_le_add_left ?_ _
  rw [← Nat.succ_mul]
  exact Nat.mul_le_mul_right _ (by omega)
/-- Symbol i's interval holds X. -/
def cov (zs : List Int) (i X : Nat) : Prop := Coded zs i ∧ bg zs i ≤ X ∧ X < bg zs i + 2 ^ (15 - ln zs i)
theorem cov_lt {zs : List Int} {i j X : Nat} (hi : cov zs i X) (hj : cov zs j X) (h : ln zs i < ln zs j ∨ (ln zs i = ln zs j ∧ i < j)) : False := by
  obtain ⟨ci, i1, i2⟩ := hi
  obtain ⟨cj, j1, j2⟩ := hj
  rcases h with h | ⟨h, hij⟩
  · have h1 := bg_end ci
    have h2 := bg_eq cj
    have h3 := SS_mono zs (show ln zs i ≤ ln zs j - 1 by omega)
    have h4 : bg zs j ≥ SS zs (ln zs j - 1) := by rw [h2]; exact Nat.le_add_right _ _
    omega
  · have h1 := bg_eq ci
    have h2 := bg_eq cj
    have h3 := cnt_step zs ci.lt ci.is
    have h4 := cnt_take_mono zs (ln zs i) (show i + 1 ≤ j by omega)
    rw [← h] at h2
    have h5 : (cnt (zs.take i) (ln zs i) + 1) * 2 ^ (15 - ln zs i) ≤ cnt (zs.take j) (ln zs i) * 2 ^ (15 - ln zs i) := Nat.mul_le_mul_right _ (by omega)
    rw [Nat.succ_mul] at h5
    omega
theorem cov_one {zs : List Int} {i j X : Nat} (hi : cov zs i X) (hj : cov zs j X) : i = j := by
  rcases Nat.lt_trichotomy (ln zs i) (ln zs j) with h | h | h
  · exact (cov_lt hi hj (.inl h)).elim
  · rcases Nat.lt_trichotomy i j with h2 | h2 | h2
    · exact (cov_lt hi hj (.inr ⟨h, h2⟩)).elim
    · exact h2
    · exact (cov_lt hj hi (.inr ⟨h.symm, h2⟩)).elim
  · exact (cov_lt hj hi (.inl h)).elim
/-- The k-th symbol of a length. -/
theorem kth (zs : List Int) (l : Nat) : ∀ n k, n ≤ zs.length → k < cnt (zs.take n) l → ∃ i, i < n ∧ zs.getD i 0 = (l : Int) ∧ cnt (zs.take i) l = k
  | 0, k, _, h => by simp [cnt] at h
  | n + 1, k, hn, h => by
    rw [take_snoc zs n (by omega), cnt_app] at h
    by_cases hk : k < cnt (zs.take n) l
    · obtain ⟨i, h1, h2, h3⟩ := kth zs l n k (by omega) hk
      exact ⟨i, by omega, h2, h3⟩
    · by_cases he : zs.getD n 0 = (l : Int)
      · rw [if_pos he] at h
        exact ⟨n, by omega, he, by omega⟩
      · rw [if_neg he] at h
        omega
theorem cov_ex (zs : List Int) (X : Nat) : ∀ l, l ≤ 15 → X < SS zs l → ∃ i, cov zs i X
  | 0, _, h => by simp [SS, sumTo] at h
  | l + 1, hl, h => by
    by_cases h1 : X < SS zs l
    · exact cov_ex zs X l (by omega) h1
    · rw [SS_succ] at h
      have hp : 0 < 2 ^ (15 - (l + 1)) := Nat.pos_of_ne_zero (by simp)
      obtain ⟨q, hq⟩ : ∃ q, q = (X - SS zs l) / 2 ^ (15 - (l + 1)) := ⟨_, rfl⟩
      have hq1 : q < cnt zs (l + 1) := by
        rw [hq, Nat.div_lt_iff_lt_mul hp]
        omega
      obtain ⟨i, h2, h3, h4⟩ := kth zs (l + 1) zs.length q (Nat.le_refl _) (by rw [List.take_length]; exact hq1)
      have hln : ln zs i = l + 1 := by unfold ln; rw [h3]; rfl
      have hc : Coded zs i := ⟨h2, by rw [hln]; exact h3, by omega, by omega⟩
      refine ⟨i, hc, ?_, ?_⟩
      · rw [bg_eq hc, hln, h4, hq, show l + 1 - 1 = l by omega]
        have := Nat.div_mul_le_self (X - SS zs l) (2 ^ (15 - (l + 1)))
        omega
      · rw [bg_eq hc, hln, h4, hq, show l + 1 - 1 = l by omega]
        have := Nat.lt_div_mul_add hp (a := X - SS zs l)
        omega
theorem SS_kr {zs : List Int} (h : okL zs) : SS zs 15 = kr zs := (kr_cnt zs h).symm
theorem num_lt {zs : List Int} {i : Nat} (h : Coded zs i) (hk : SS zs 15 ≤ 32768) : num zs i < 2 ^ ln zs i := by
  have h1 := bg_end h
  have h2 := SS_mono zs h.most
  have h3 : bg zs i + 2 ^ (15 - ln zs i) = (num zs i + 1) * 2 ^ (15 - ln zs i) := by unfold bg; rw [Nat.succ_mul]
  have h4 : (2 : Nat) ^ 15 = 2 ^ ln zs i * 2 ^ (15 - ln zs i) := by rw [← Nat.pow_add]; congr 1; have := h.most; omega
  have h5 : (num zs i + 1) * 2 ^ (15 - ln zs i) ≤ 2 ^ ln zs i * 2 ^ (15 - ln zs i) := by rw [← h3, ← h4]; omega
  exact Nat.le_of_mul_le_mul_right h5 (Nat.pos_of_ne_zero (by simp))
/-- The bits of the turned number. -/
theorem tr_bit (x l i : Nat) : (tr x l).testBit i = if i < l then x.testBit (l - 1 - i) else false := by
  rw [tr, turn_bit]
  split
  · rfl
  · exact Nat.zero_testBit _
theorem tr_mod (x l m : Nat) (h : l ≤ m) : tr (x % 2 ^ m) l = tr x l := by
  apply Nat.eq_of_testBit_eq
  intro i
  rw [tr_bit, tr_bit]
  split
  · rw [Nat.testBit_mod_two_pow]
    simp; omega
  · rfl
theorem tr_tr {x l : Nat} (h : x < 2 ^ l) : tr (tr x l) l = x := by
  apply Nat.eq_of_testBit_eq
  intro i
  rw [tr_bit]
  split
  · rw [tr_bit, if_pos (by omega)]
    congr 1; omega
  · exact (Nat.testBit_lt_two_pow (Nat.lt_of_lt_of_le h (Nat.pow_le_pow_right (by decide) (by omega)))).symm
/-- The first l of the next m bits, as a number. -/
theorem tr_div (b l m : Nat) (h : l ≤ m) : tr b m / 2 ^ (m - l) = tr b l := by
  apply Nat.eq_of_testBit_eq
  intro i
  rw [← Nat.shiftRight_eq_div_pow, Nat.testBit_shiftRight, tr_bit, tr_bit]
  by_cases hi : i < l
  · rw [if_pos (by omega), if_pos hi]
    congr 1; omega
  · rw [if_neg hi, if_neg (by omega)]
/-- The low bits of b are the code's exactly where the interval holds the number of the next fifteen bits. -/
theorem cov_iff {zs : List Int} {i : Nat} (h : Coded zs i) (hk : SS zs 15 ≤ 32768) (b : Nat) : b % 2 ^ ln zs i = tr (num zs i) (ln zs i) ↔ cov zs i (tr b 15) := by
  have hl := num_lt h hk
  have hd := tr_div b (ln zs i) 15 h.most
  have hp : 0 < 2 ^ (15 - ln zs i) := Nat.pos_of_ne_zero (by simp)
  have h1 : b % 2 ^ ln zs i = tr (num zs i) (ln zs i) ↔ tr b (ln zs i) = num zs i := by
    constructor
    · intro e
      rw [← tr_mod b (ln zs i) (ln zs i) (Nat.le_refl _), e, tr_tr hl]
    · intro e
      have h2 : b % 2 ^ ln zs i < 2 ^ ln zs i := Nat.mod_lt _ (Nat.pos_of_ne_zero (by simp))
      rw [← e, ← tr_mod b (ln zs i) (ln zs i) (Nat.le_refl _), tr_tr h2]
  rw [h1, ← hd]
  constructor
  · intro e
    refine ⟨h, ?_, ?_⟩
    · unfold bg; rw [← e]; exact Nat.div_mul_le_self _ _
    · unfold bg; rw [← e]; exact Nat.lt_div_mul_add hp
  · rintro ⟨_, h3, h4⟩
    unfold bg at h3 h4
    rw [← Nat.succ_mul] at h4
    exact Nat.le_antisymm (Nat.le_of_lt_succ ((Nat.div_lt_iff_lt_mul hp).2 h4)) ((Nat.le_div_iff_mul_le hp).2 h3)
theorem tr_low (x l m : Nat) (h : l ≤ m) : tr x m % 2 ^ l = tr (x / 2 ^ (m - l)) l := by
  apply Nat.eq_of_testBit_eq
  intro i
  rw [Nat.testBit_mod_two_pow, tr_bit, tr_bit]
  by_cases hi : i < l
  · rw [if_pos (by omega), if_pos hi, ← Nat.shiftRight_eq_div_pow, Nat.testBit_shiftRight, decide_eq_true hi, Bool.true_and]
    congr 1; omega
  · rw [if_neg hi, decide_eq_false hi, Bool.false_and]
theorem mod_mod (b l n : Nat) (h : l ≤ n) : b % 2 ^ n % 2 ^ l = b % 2 ^ l := Nat.mod_mod_of_dvd _ (Nat.pow_dvd_pow 2 h)
theorem tr_tr_mod (b n : Nat) : tr (tr b n) n = b % 2 ^ n := by
  rw [← tr_mod b n n (Nat.le_refl _), tr_tr (Nat.mod_lt _ (Nat.pos_of_ne_zero (by simp)))]
theorem tr_inj {a b l : Nat} (ha : a < 2 ^ l) (hb : b < 2 ^ l) (h : tr a l = tr b l) : a = b := by
  rw [← tr_tr ha, h, tr_tr hb]
/-- A code that holds the next bits begins with each of their beginnings. -/
theorem beg_of_cov {zs : List Int} {i b n : Nat} (h : cov zs i (tr (b % 2 ^ n) 15)) (hk : SS zs 15 ≤ 32768) {l : Nat} (hl : l ≤ n) (hi : l ≤ ln zs i) : tr (num zs i) (ln zs i) % 2 ^ l = b % 2 ^ l := by
  have h1 := (cov_iff h.1 hk (b % 2 ^ n)).2 h
  rw [← h1, Nat.mod_mod_of_dvd _ (Nat.pow_dvd_pow 2 hi)]
  exact mod_mod b l n hl
/-- The number of bits that end: zeros behind them. -/
theorem tr_zero (b n : Nat) (hn : n ≤ 15) : tr (b % 2 ^ n) 15 = tr b n * 2 ^ (15 - n) := by
  apply Nat.eq_of_testBit_eq
  intro i
  rw [tr_bit, ← Nat.shiftLeft_eq, Nat.testBit_shiftLeft, tr_bit]
  by_cases hi : i < 15
  · rw [if_pos hi, Nat.testBit_mod_two_pow]
    by_cases h2 : i ≥ 15 - n
    · rw [decide_eq_true h2, Bool.true_and, if_pos (by omega), decide_eq_true (by omega), Bool.true_and]
      congr 1; omega
    · rw [decide_eq_false h2, Bool.false_and, decide_eq_false (by omega), Bool.false_and]
  · rw [if_neg hi, if_neg (by omega), Bool.and_false]
/-- Where no code holds the next bits, with zeros behind them, none begins with them. -/
theorem no_beg {zs : List Int} (hk : SS zs 15 ≤ 32768) {b n : Nat} (hn : n ≤ 15) (hno : ∀ i, ¬ cov zs i (tr (b % 2 ^ n) 15)) {i : Nat} (h : Coded zs i) (hl : n < ln zs i) : tr (num zs i) (ln zs i) % 2 ^ n ≠ b % 2 ^ n := by
  intro e
  have hX : ¬ tr (b % 2 ^ n) 15 < SS zs 15 := fun hlt => by
    obtain ⟨j, hj⟩ := cov_ex zs _ 15 (Nat.le_refl _) hlt
    exact hno j hj
  have h15 := h.most
  rw [tr_low _ _ _ (by omega)] at e
  have hq : num zs i / 2 ^ (ln zs i - n) < 2 ^ n := by
    rw [Nat.div_lt_iff_lt_mul (Nat.pos_of_ne_zero (by simp)), ← Nat.pow_add, show n + (ln zs i - n) = ln zs i by omega]
    exact num_lt h hk
  have e2 : num zs i / 2 ^ (ln zs i - n) = tr b n := by
    refine tr_inj hq ?_ ?_
    · exact tr_lt _ _
    · rw [e, tr_tr_mod]
  have h1 : tr b n * 2 ^ (ln zs i - n) ≤ num zs i := by rw [← e2]; exact Nat.div_mul_le_self _ _
  have h2 : tr b n * 2 ^ (15 - n) ≤ bg zs i := by
    unfold bg
    rw [show 15 - n = (ln zs i - n) + (15 - ln zs i) by omega, Nat.pow_add, ← Nat.mul_assoc]
    exact Nat.mul_le_mul_right _ h1
  have h3 := bg_end h
  have h4 := SS_mono zs h15
  have h5 : 0 < 2 ^ (15 - ln zs i) := Nat.pos_of_ne_zero (by simp)
  rw [tr_zero b n hn] at hX
  omega
/-- What HuffNext answers, for lengths that have codes: kind, symbol, length. -/
def Ans (zs : List Int) (b n : Nat) (k s l : Nat) : Prop :=
  (∃ i, cov zs i (tr (b % 2 ^ n) 15) ∧ ln zs i ≤ n ∧ k = 1 ∧ s = i ∧ l = ln zs i) ∨ (∃ i, cov zs i (tr (b % 2 ^ n) 15) ∧ n < ln zs i ∧ k = 2 ∧ s = 0 ∧ l = 0) ∨ ((∀ i, ¬ cov zs i (tr (b % 2 ^ n) 15)) ∧ k = 0 ∧ s = 0 ∧ l = 0)
theorem Ans.one {zs : List Int} {b n k s l k' s' l' : Nat} (h : Ans zs b n k s l) (h' : Ans zs b n k' s' l') : k = k' ∧ s = s' ∧ l = l' := by
  rcases h with ⟨i, c, h1, rfl, rfl, rfl⟩ | ⟨i, c, h1, rfl, rfl, rfl⟩ | ⟨h0, rfl, rfl, rfl⟩
  · rcases h' with ⟨j, c', h2, rfl, rfl, rfl⟩ | ⟨j, c', h2, rfl, rfl, rfl⟩ | ⟨h0', rfl, rfl, rfl⟩
    · have := cov_one c c'; subst this; exact ⟨rfl, rfl, rfl⟩
    · have := cov_one c c'; subst this; omega
    · exact (h0' _ c).elim
  · rcases h' with ⟨j, c', h2, rfl, rfl, rfl⟩ | ⟨j, c', h2, rfl, rfl, rfl⟩ | ⟨h0', rfl, rfl, rfl⟩
    · have := cov_one c c'; subst this; omega
    · exact ⟨rfl, rfl, rfl⟩
    · exact (h0' _ c).elim
  · rcases h' with ⟨j, c', h2, rfl, rfl, rfl⟩ | ⟨j, c', h2, rfl, rfl, rfl⟩ | ⟨h0', rfl, rfl, rfl⟩
    · exact (h0 _ c').elim
    · exact (h0 _ c').elim
    · exact ⟨rfl, rfl, rfl⟩
end Go.Proofs.YtlffdadmgginmaeDoor
namespace Go.Proofs.YtlffdadmgginmaeDoor
open Go.RowKit

/-- From 'ao' on lie the numbers zs. -/
def Row64 (w : World) (ao : Option Addr) (zs : List Int) : Prop :=
  ∀ i, i < zs.length → ∃ b off, ao = some ⟨b, off, none⟩ ∧ w.cell? ⟨b, off + i, none⟩ = some (.int .i64 (zs.getD i 0))
theorem Row64.nil (w : World) (ao : Option Addr) : Row64 w ao [] := fun i hi => absurd hi (by simp)
theorem Row64.at {w : World} {ao : Option Addr} {zs : List Int} (h : Row64 w ao zs) {k : Nat} (hk : k < zs.length) :
    ∃ b off, ao = some ⟨b, off, none⟩ ∧ ∀ i, i < zs.length → w.cell? ⟨b, off + i, none⟩ = some (.int .i64 (zs.getD i 0)) := by
  obtain ⟨b, off, rfl, _⟩ := h k hk
  refine ⟨b, off, rfl, fun i hi => ?_⟩
  obtain ⟨b', off', e, hc⟩ := h i hi
  simp only [Option.some.injEq, Addr.mk.injEq, and_true] at e
  obtain ⟨rfl, rfl⟩ := e
  exact hc
theorem Row64.of {w : World} {b off : Nat} {zs : List Int} (h : ∀ i, i < zs.length → w.cell? ⟨b, off + i, none⟩ = some (.int .i64 (zs.getD i 0))) : Row64 w (some ⟨b, off, none⟩) zs :=
  fun i hi => ⟨b, off, rfl, h i hi⟩
theorem Row64.grown {w w' : World} {row : Option Nat} {ao : Option Addr} {zs : List Int} (h : Row64 w ao zs) (hg : w.grownBy w' row) (hne : ∀ ad, ao = some ad → some ad.block ≠ row) : Row64 w' ao zs := by
  intro i hi
  obtain ⟨b, off, rfl, hc⟩ := h i hi
  exact ⟨b, off, rfl, hg.cell hc (hne ⟨b, off, none⟩ rfl)⟩
theorem Row64.below {w w' : World} {ao : Option Addr} {zs : List Int} (h : Row64 w ao zs) (hb : Below w.heap.size w w') : Row64 w' ao zs := by
  intro i hi
  obtain ⟨b, off, rfl, hc⟩ := h i hi
  exact ⟨b, off, rfl, by rw [hb.cell (World.block_lt_of_cell? w _ hc)]; exact hc⟩
theorem Row64.drewN {w : World} {ao : Option Addr} {zs : List Int} (h : Row64 w ao zs) (k : Nat) : Row64 (w.drewN k) ao zs := h
theorem Row64.owned {w : World} {base e g n cap : Nat} {zs : List Int} (h : w.ownsRow base e 1 (.slice (some ⟨g, 0, none⟩) n cap) n (zs.map (Value.int .i64))) : Row64 w (some ⟨g, 0, none⟩) zs := by
  have hl : n = zs.length := by have := h.1; simp at this; omega
  subst hl
  refine Row64.of fun i hi => ?_
  rw [Nat.zero_add, h.cellAt i (by omega)]
  simp [List.getD, hi]
theorem copied_map64 (zs : List Int) (k : Nat) (h : k < zs.length) : ((copied zs k).map (Value.int .i64)).set k (.int .i64 (zs.getD k 0)) = (copied zs (k + 1)).map (Value.int .i64) := by
  rw [← copied_succ zs k h, List.map_set]

end Go.Proofs.YtlffdadmgginmaeDoor
namespace Go.Proofs.YtlffdadmgginmaeDoor
open Go.RowKit

theorem Tryd.info_i64 : (Tryd.prog.info? 2).map (fun i => (i.zero, i.size, i.bytes)) = some (some (.int .i64 0), 1, 8) := by kernel_rfl

/-- laws.eqInt64S. -/
theorem eqInt64S_any (ao bo : Option Addr) (ca cb : Nat) (za zb : List Int) (w : World) (ha : Row64 w ao za) (hb : Row64 w bo zb) (hn : za.length ≤ 17592186044416) :
    Calls Tryd.prog 28 #[.slice ao za.length ca, .slice bo zb.length cb] w fun e w' => e = .returned (.bool (decide (za = zb))) ∧ ∃ q, w' = w.drewN q := by
  by_cases hl : za.length = zb.length
  · have hl' : ((za.length : Int) != (zb.length : Int)) = false := by simp [hl]
    have HL : Hid (za.length = zb.length) := hl
    clear hl
    go_enter Tryd.func28, Tryd.ntmps28
    go_wp2_with fail
    go_loopw [5] (fun i wr => ∃ k : Nat, k ≤ za.length ∧ i = .int .i64 k ∧ (∃ q, wr = w.drewN q) ∧ Hid (∀ j, j < k → za.getD j 0 = zb.getD j 0)) (fun i _ => za.length - (intOf i).toNat)
    case atStart => exact ⟨0, Nat.zero_le _, rfl, ⟨0, rfl⟩, fun j hj => absurd hj (by omega)⟩
    case round =>
      obtain ⟨k, hk, rfl, ⟨q, rfl⟩, HE⟩ := hrel
      by_cases hlt : k < za.length
      · have hltb : k < zb.length := by have := HL.out; omega
        obtain ⟨b1, o1, rfl, hc1⟩ := ha.at hlt
        obtain ⟨b2, o2, rfl, hc2⟩ := hb.at hltb
        have h1 := hc1 k hlt
        have h2 := hc2 k hltb
        clear hc1 hc2 ha hb
        by_cases he : za.getD k 0 = zb.getD k 0
        · have HN : Hid (∀ j, j < k + 1 → za.getD j 0 = zb.getD j 0) := by
            intro j hj
            rcases Nat.lt_succ_iff_lt_or_eq.1 hj with h | rfl
            · exact HE.out j h
            · exact he
          rw [← he] at h2
          generalize za.getD k 0 = x at *
          clear he HE
          go_wp2_with fail
          go_quiet (fail)
          go_wp2_with fail
          go_roundw
          case rel => exact ⟨k + 1, by omega, by go_num, ⟨_, rfl⟩, HN⟩
          case measure => simp [intOf]; omega
        · have hne : (za.getD k 0 != zb.getD k 0) = true := by simpa using he
          have hf : Hid (decide (za = zb) = false) := by
            show decide (za = zb) = false
            simp only [decide_eq_false_iff_not]
            intro h
            rw [h] at he
            exact he rfl
          generalize za.getD k 0 = x at *
          generalize zb.getD k 0 = y at *
          clear he HE
          go_wp2_with fail
          go_quiet (fail)
          go_wp2_with fail
          go_ret
          refine ⟨retb hf.out.symm, ?_⟩
          simp only [World.drewN_drewN]
          exact ⟨_, rfl⟩
      · have e : k = za.length := by omega
        have hf : Hid (decide (za = zb) = true) := by
          show decide (za = zb) = true
          rw [decide_eq_true_iff]
          refine list_eq HL.out (fun j hj => HE.out j (by omega))
        clear HE
        go_wp2_with fail
        go_ret
        exact ⟨retb hf.out.symm, q, rfl⟩
  · have hl' : ((za.length : Int) != (zb.length : Int)) = true := by simpa using (by omega : ¬ (za.length : Int) = zb.length)
    have hf : Hid (decide (za = zb) = false) := by
      show decide (za = zb) = false
      simp only [decide_eq_false_iff_not]
      intro h
      rw [h] at hl
      exact hl rfl
    clear hl
    go_enter Tryd.func28, Tryd.ntmps28
    go_wp2_with fail
    go_ret
    exact ⟨retb hf.out.symm, 0, rfl⟩
end Go.Proofs.YtlffdadmgginmaeDoor
namespace Go.Proofs.YtlffdadmgginmaeDoor
open Go.RowKit
attribute [local go_sem ↓] Go.wp_at_zero Go.wp_at_succ
set_option linter.unusedVariables false

theorem hideH {p : Prop} (h : p) : Hid p := h
theorem reti {k : IntKind} {a b : Int} (h : a = b) : Ending.returned (.int k a) = .returned (.int k b) := by rw [h]

theorem l3Pow_any (n P : Nat) (hn : n ≤ 62) (hP : 2 ^ n = P) (w : World) : Calls Tryd.prog 73 #[.int .i64 n] w fun e w' => e = .returned (.int .i64 P) ∧ w' = w := by
  have HQ := hideH hP
  clear hP
  go_enter Tryd.func73, Tryd.ntmps73
  go_wp2_with fail
  go_loop [3, 4] (fun x i => ∃ (k p : Nat), k ≤ n ∧ i = .int .i64 k ∧ x = .int .i64 p ∧ Hid (p = 2 ^ k)) (fun _ i => n - (intOf i).toNat)
  case atStart => exact ⟨0, 1, Nat.zero_le _, rfl, rfl, (rfl : 1 = 2 ^ 0)⟩
  case round =>
    obtain ⟨k, p, hk, rfl, rfl, HP⟩ := hrel
    by_cases hlt : k < n
    · have hp : p ≤ 2305843009213693952 := by
        rw [HP.out]
        exact Nat.le_trans (Nat.pow_le_pow_right (by omega) (by omega : k ≤ 61)) (by decide)
      go_wp2_with fail
      go_round
      case rel => exact ⟨k + 1, 2 * p, by omega, by go_num, by go_num, (by rw [HP.out, Nat.pow_succ]; omega : 2 * p = 2 ^ (k + 1))⟩
      case measure => simp [intOf]; omega
    · have e : k = n := by omega
      subst e
      go_wp2_with fail
      go_ret
      have hPp : p = P := by rw [HP.out, HQ.out]
      exact ⟨by rw [hPp]; rfl, rfl⟩

set_option maxHeartbeats 3200000 in
theorem skind_any (ao : Option Addr) (cap : Nat) (zs : List Int) (w : World) (hr : Row64 w ao zs) (hn : zs.length ≤ 1048576) :
    Calls Tryd.prog 45 #[.slice ao zs.length cap] w fun e w' => e = .returned (.int .i64 (hk zs)) ∧ ∃ q, w' = w.drewN q := by
  by_cases hl : zs.length ≤ 320
  · go_enter Tryd.func45, Tryd.ntmps45
    go_wp2_with fail
    go_loopw [3, 4, 5] (fun k n i wr => ∃ (j K N : Nat), j ≤ zs.length ∧ i = .int .i64 j ∧ k = .int .i64 K ∧ n = .int .i64 N ∧ Hid (K = kr (zs.take j)) ∧ Hid (N = nz (zs.take j)) ∧ Hid (okL (zs.take j)) ∧ ∃ q, wr = w.drewN q) (fun _ _ i _ => zs.length - (intOf i).toNat)
    case atStart => exact ⟨0, 0, 0, Nat.zero_le _, rfl, rfl, rfl, (rfl : 0 = kr (zs.take 0)), (rfl : 0 = nz (zs.take 0)), (fun z hz => by simp at hz : okL (zs.take 0)), 0, rfl⟩
    case round =>
      obtain ⟨j, K, N, hj, rfl, rfl, rfl, HK, HN, HO, q, rfl⟩ := hrel
      have hK : K ≤ 5242880 := by
        have h1 := kr_le (zs.take j)
        rw [HK.out]
        have : (zs.take j).length ≤ 320 := by simp; omega
        omega
      have hN : N ≤ 320 := by
        have h1 := nz_le (zs.take j)
        rw [HN.out]
        have : (zs.take j).length ≤ 320 := by simp; omega
        omega
      by_cases hlt : j < zs.length
      · obtain ⟨b, off, rfl, hc⟩ := hr.at hlt
        have hcj := hc j hlt
        have hcq : (w.drewN q).cell? ⟨b, off + j, none⟩ = some (.int .i64 (zs.getD j 0)) := hcj
        have HB : Hid (¬ (0 ≤ zs.getD j 0 ∧ zs.getD j 0 ≤ 15) → okB zs = false) := fun h => okB_bad hlt h
        have HOS : Hid ((0 ≤ zs.getD j 0 ∧ zs.getD j 0 ≤ 15) → okL (zs.take (j + 1))) := fun h => okL_take_succ hlt HO.out h
        have HKS : Hid (kr (zs.take (j + 1)) = K + if 0 < zs.getD j 0 then 2 ^ (15 - (zs.getD j 0).toNat) else 0) := by show _ = _; rw [take_snoc zs j hlt, kr_app, HK.out]
        have HNS : Hid (nz (zs.take (j + 1)) = N + if 0 < zs.getD j 0 then 1 else 0) := by show _ = _; rw [take_snoc zs j hlt, nz_app, HN.out]
        generalize zs.getD j 0 = x at *
        clear hc hr hcj HK HN HO
        by_cases x0 : x < 0
        · have d0 : decide (x < 0) = true := decide_eq_true x0
          have HF : Hid (0 = hk zs) := by show _ = _; rw [hk, HB.out (by omega)]; rfl
          go_wp2_with fail
          go_ret
          exact ⟨reti HF.out, q, rfl⟩
        · have d0 : decide (x < 0) = false := decide_eq_false x0
          by_cases x1 : 15 < x
          · have d1 : decide (15 < x) = true := decide_eq_true x1
            have HF : Hid (0 = hk zs) := by show _ = _; rw [hk, HB.out (by omega)]; rfl
            go_wp2_with fail
            go_ret
            exact ⟨reti HF.out, q, rfl⟩
          · have d1 : decide (15 < x) = false := decide_eq_false x1
            have HOT := hideH (HOS.out (by omega))
            obtain ⟨y, rfl⟩ : ∃ y : Nat, x = y := ⟨x.toNat, by omega⟩
            by_cases x2 : 0 < y
            · have hz : (15 : Int) - (y : Int) = ((15 - y : Nat) : Int) := by omega
              obtain ⟨P, hP⟩ : ∃ P, 2 ^ (15 - y) = P := ⟨_, rfl⟩
              have HP : Hid _ := l3Pow_any (15 - y) P (by omega) hP
              have hpw : P ≤ 16384 := hP ▸ Nat.le_trans (Nat.pow_le_pow_right (by omega) (by omega : 15 - y ≤ 14)) (by decide)
              have HK2 : Hid (K + P = kr (zs.take (j + 1))) := by show _ = _; rw [HKS.out, if_pos (by omega), Int.toNat_natCast, hP]
              have HN2 : Hid (N + 1 = nz (zs.take (j + 1))) := by show _ = _; rw [HNS.out, if_pos (by omega)]
              obtain ⟨Y, hY⟩ : ∃ Y, 15 - y = Y := ⟨_, rfl⟩
              rw [hY] at hz HP
              clear HB HOS HKS HNS hP hY
              go_wp2_with fail
              refine Calls.mono (HP.out _) ?_
              rintro e w1 ⟨rfl, rfl⟩
              go_wp2_with fail
              go_roundw
              case rel => exact ⟨j + 1, K + P, N + 1, by omega, by go_num, by go_num, by go_num, HK2, HN2, HOT, q, rfl⟩
              case measure => simp [intOf]; omega
            · have HK2 : Hid (K = kr (zs.take (j + 1))) := by show _ = _; rw [HKS.out, if_neg (by omega)]; rfl
              have HN2 : Hid (N = nz (zs.take (j + 1))) := by show _ = _; rw [HNS.out, if_neg (by omega)]; rfl
              clear HB HOS HKS HNS
              go_wp2_with fail
              go_roundw
              case rel => exact ⟨j + 1, K, N, by omega, by go_num, rfl, rfl, HK2, HN2, HOT, q, rfl⟩
              case measure => simp [intOf]; omega
      · have e : j = zs.length := by omega
        have HF : Hid (hk zs = hkind N K) := by
          show _ = _
          have hok : okL zs := by have := HO.out; rw [e, List.take_length] at this; exact this
          rw [hk, okB_of hl hok, if_pos rfl, HN.out, HK.out, e, List.take_length]
        have HP15 : Hid _ := l3Pow_any 15 32768 (by omega) (by decide)
        have HP14 : Hid _ := l3Pow_any 14 16384 (by omega) (by decide)
        clear HK HN HO hr
        by_cases n0 : N = 0
        · subst n0
          have HG : Hid (5 = hk zs) := by show _ = _; rw [HF.out]; rfl
          go_wp2_with fail
          go_ret
          exact ⟨reti HG.out, q, rfl⟩
        · by_cases k0 : 32768 < K
          · have HG : Hid (2 = hk zs) := by show _ = _; rw [HF.out, hkind, if_neg n0, if_pos k0]
            go_wp2_with fail
            refine Calls.mono (HP15.out _) ?_
            rintro e w1 ⟨rfl, rfl⟩
            go_wp2_with fail
            go_ret
            exact ⟨reti HG.out, q, rfl⟩
          · by_cases k1 : K = 32768
            · have HG : Hid (1 = hk zs) := by show _ = _; rw [HF.out, hkind, if_neg n0, if_neg k0, if_pos k1]
              subst k1
              go_wp2_with fail
              refine Calls.mono (HP15.out _) ?_
              rintro e w1 ⟨rfl, rfl⟩
              go_wp2_with fail
              refine Calls.mono (HP15.out _) ?_
              rintro e w1 ⟨rfl, rfl⟩
              go_wp2_with fail
              go_ret
              exact ⟨reti HG.out, q, rfl⟩
            · have k1b : ((K : Int) == 32768) = false := by simp; omega
              by_cases n1 : N = 1
              · subst n1
                by_cases k2 : K = 16384
                · have HG : Hid (4 = hk zs) := by show _ = _; rw [HF.out, k2]; rfl
                  have k2b : ((K : Int) == 16384) = true := by simp; omega
                  go_wp2_with fail
                  refine Calls.mono (HP15.out _) ?_
                  rintro e w1 ⟨rfl, rfl⟩
                  go_wp2_with fail
                  refine Calls.mono (HP15.out _) ?_
                  rintro e w1 ⟨rfl, rfl⟩
                  go_wp2_with fail
                  refine Calls.mono (HP14.out _) ?_
                  rintro e w1 ⟨rfl, rfl⟩
                  go_wp2_with fail
                  go_ret
                  exact ⟨reti HG.out, q, rfl⟩
                · have HG : Hid (3 = hk zs) := by show _ = _; rw [HF.out, hkind, if_neg n0, if_neg k0, if_neg k1, if_neg (by omega)]
                  have k2b : ((K : Int) == 16384) = false := by simp; omega
                  go_wp2_with fail
                  refine Calls.mono (HP15.out _) ?_
                  rintro e w1 ⟨rfl, rfl⟩
                  go_wp2_with fail
                  refine Calls.mono (HP15.out _) ?_
                  rintro e w1 ⟨rfl, rfl⟩
                  go_wp2_with fail
                  refine Calls.mono (HP14.out _) ?_
                  rintro e w1 ⟨rfl, rfl⟩
                  go_wp2_with fail
                  go_ret
                  exact ⟨reti HG.out, q, rfl⟩
              · have HG : Hid (3 = hk zs) := by show _ = _; rw [HF.out, hkind, if_neg n0, if_neg k0, if_neg k1, if_neg (by omega)]
                have n1b : ((N : Int) == 1) = false := by simp; omega
                go_wp2_with fail
                refine Calls.mono (HP15.out _) ?_
                rintro e w1 ⟨rfl, rfl⟩
                go_wp2_with fail
                refine Calls.mono (HP15.out _) ?_
                rintro e w1 ⟨rfl, rfl⟩
                go_wp2_with fail
                go_ret
                exact ⟨reti HG.out, q, rfl⟩
  · have HF : Hid (0 = hk zs) := by show _ = _; rw [hk, okB_long hl]; rfl
    go_enter Tryd.func45, Tryd.ntmps45
    go_wp2_with fail
    go_ret
    exact ⟨reti HF.out, 0, rfl⟩

end Go.Proofs.YtlffdadmgginmaeDoor
namespace Go.Proofs.YtlffdadmgginmaeDoor
open Go.RowKit
attribute [local go_sem ↓] Go.wp_at_zero Go.wp_at_succ
set_option linter.unusedVariables false

theorem u64_and (a b : Nat) (ha : a < 2 ^ 64) (hb : b < 2 ^ 64) : bits .and .u64 (a : Int) (b : Int) = ((a &&& b : Nat) : Int) := by
  show IntKind.u64.wrap ((BitVec.ofInt 64 a &&& BitVec.ofInt 64 b).toNat : Nat) = _
  rw [BitVec.toNat_and, BitVec.ofInt_natCast, BitVec.ofInt_natCast, BitVec.toNat_ofNat, BitVec.toNat_ofNat, Nat.mod_eq_of_lt ha, Nat.mod_eq_of_lt hb, IntKind.wrap_u64]
  have : a &&& b < 2 ^ 64 := Nat.lt_of_le_of_lt Nat.and_le_left ha
  omega
theorem u64_or (a b : Nat) (ha : a < 2 ^ 64) (hb : b < 2 ^ 64) : bits .or .u64 (a : Int) (b : Int) = ((a ||| b : Nat) : Int) := by
  show IntKind.u64.wrap ((BitVec.ofInt 64 a ||| BitVec.ofInt 64 b).toNat : Nat) = _
  rw [BitVec.toNat_or, BitVec.ofInt_natCast, BitVec.ofInt_natCast, BitVec.toNat_ofNat, BitVec.toNat_ofNat, Nat.mod_eq_of_lt ha, Nat.mod_eq_of_lt hb, IntKind.wrap_u64]
  have : a ||| b < 2 ^ 64 := Nat.or_lt_two_pow ha hb
  omega
/-- One step's facts, as the walk spells them. -/
theorem stepG (s m x : Nat) (M K : Int) (hM : M = (m : Int)) (hK : K = ((2 ^ s : Nat) : Int)) (hx : x < 2 ^ 64) (hm : m < 2 ^ 64) (hms : m * 2 ^ s < 2 ^ 64) :
    ∃ A B C y : Nat, bits .and .u64 ((x : Int) / K) M = (A : Int) ∧ bits .and .u64 (x : Int) M = (B : Int) ∧ IntKind.u64.wrap ((B : Int) * K) = (C : Int) ∧ bits .or .u64 (A : Int) (C : Int) = (y : Int) ∧ y < 2 ^ 64 ∧ y = swp s m x := by
  subst hM hK
  have h1 : (x : Int) / ((2 ^ s : Nat) : Int) = ((x >>> s : Nat) : Int) := by rw [Nat.shiftRight_eq_div_pow]; exact (Int.natCast_ediv x (2 ^ s)).symm
  have hB : x &&& m < 2 ^ 64 := Nat.lt_of_le_of_lt Nat.and_le_left hx
  have hA : x >>> s &&& m < 2 ^ 64 := Nat.lt_of_le_of_lt Nat.and_le_right hm
  have hC : (x &&& m) <<< s < 2 ^ 64 := by
    rw [Nat.shiftLeft_eq]
    exact Nat.lt_of_le_of_lt (Nat.mul_le_mul_right _ Nat.and_le_right) hms
  refine ⟨x >>> s &&& m, x &&& m, (x &&& m) <<< s, swp s m x, ?_, u64_and _ _ hx hm, ?_, u64_or _ _ hA hC, Nat.or_lt_two_pow hA hC, rfl⟩
  · rw [h1]
    exact u64_and _ _ (Nat.lt_of_le_of_lt (Nat.shiftRight_le _ _) hx) hm
  · rw [Nat.shiftLeft_eq] at hC ⊢
    rw [← Int.natCast_mul, IntKind.wrap_u64]
    omega
/-- The last step has no mask. -/
theorem stepL (x : Nat) (hx : x < 2 ^ 64) : ∃ A C y : Nat, (x : Int) / 4294967296 = (A : Int) ∧ IntKind.u64.wrap ((x : Int) * 4294967296) = (C : Int) ∧ bits .or .u64 (A : Int) (C : Int) = (y : Int) ∧ y = swp 32 m32 x := by
  have e1 : x >>> 32 &&& m32 = x / 4294967296 := by
    rw [show m32 = 2 ^ 32 - 1 from rfl, Nat.and_two_pow_sub_one_eq_mod, Nat.shiftRight_eq_div_pow]
    omega
  have e2 : (x &&& m32) <<< 32 = x % 4294967296 * 4294967296 := by
    rw [show m32 = 2 ^ 32 - 1 from rfl, Nat.and_two_pow_sub_one_eq_mod, Nat.shiftLeft_eq]
  refine ⟨x / 4294967296, x % 4294967296 * 4294967296, swp 32 m32 x, by omega, ?_, ?_, rfl⟩
  · rw [IntKind.wrap_u64]; omega
  · unfold swp
    rw [e1, e2]
    exact u64_or _ _ (by omega) (by omega)

set_option maxHeartbeats 1600000 in
theorem revBytes_any (x : Nat) (hx : x < 2 ^ 64) (w : World) : Calls Tryd.prog 135 #[.int .u64 x] w fun e w' => e = .returned (.int .u64 (swp 32 m32 (swp 16 m16 (swp 8 m8 x)) : Nat)) ∧ w' = w := by
  obtain ⟨A1, B1, C1, y1, h1, h2, h3, h4, l1, e1⟩ := stepG 8 m8 x 71777214294589695 256 rfl rfl hx (by decide) (by decide)
  obtain ⟨A2, B2, C2, y2, k1, k2, k3, k4, l2, e2⟩ := stepG 16 m16 y1 281470681808895 65536 rfl rfl l1 (by decide) (by decide)
  obtain ⟨A3, C3, y3, g1, g3, g4, e3⟩ := stepL y2 l2
  have HE : Hid (y3 = swp 32 m32 (swp 16 m16 (swp 8 m8 x))) := by show _ = _; rw [e3, e2, e1]
  clear e1 e2 e3 hx l1 l2
  go_enter Tryd.func135, Tryd.ntmps135
  go_wp2_with fail
  go_ret
  exact ⟨by rw [← HE.out]; rfl, rfl⟩

set_option maxHeartbeats 1600000 in
theorem reverse_any (x : Nat) (hx : x < 2 ^ 64) (w : World) : Calls Tryd.prog 121 #[.int .u64 x] w fun e w' => e = .returned (.int .u64 (rev64 x : Nat)) ∧ w' = w := by
  obtain ⟨A1, B1, C1, y1, h1, h2, h3, h4, l1, e1⟩ := stepG 1 m1 x 6148914691236517205 2 rfl rfl hx (by decide) (by decide)
  obtain ⟨A2, B2, C2, y2, k1, k2, k3, k4, l2, e2⟩ := stepG 2 m2 y1 3689348814741910323 4 rfl rfl l1 (by decide) (by decide)
  obtain ⟨A3, B3, C3, y3, g1, g2, g3, g4, l3, e3⟩ := stepG 4 m4 y2 1085102592571150095 16 rfl rfl l2 (by decide) (by decide)
  have HR := hideH (revBytes_any y3 l3 w)
  have HE : Hid (swp 32 m32 (swp 16 m16 (swp 8 m8 y3)) = rev64 x) := by show _ = _; rw [e3, e2, e1]; rfl
  rw [HE.out] at HR
  clear e1 e2 e3 hx l1 l2 l3
  go_enter Tryd.func121, Tryd.ntmps121
  go_wp2_with fail
  refine Calls.mono HR.out ?_
  rintro e w1 ⟨rfl, rfl⟩
  go_wp2_with fail
  go_ret
  exact ⟨rfl, rfl⟩

set_option maxHeartbeats 1600000 in
theorem turnRound_any (x l : Nat) (hx : x < 2 ^ 64) (h0 : 1 ≤ l) (h1 : l ≤ 15) (w : World) : Calls Tryd.prog 92 #[.int .u64 x, .int .i64 l] w fun e w' => e = .returned (.int .u64 (tr x l : Nat)) ∧ w' = w := by
  have HR := hideH (reverse_any x hx w)
  have HT := hideH (rev_turn x l (by omega))
  obtain ⟨R, hR⟩ : ∃ R, rev64 x = R := ⟨_, rfl⟩
  rw [hR] at HR HT
  obtain ⟨k, hk⟩ : ∃ k : Nat, 64 - (l : Int) = (k : Int) := ⟨64 - l, by omega⟩
  have hk0 : 49 ≤ k := by omega
  have hk1 : k < 64 := by omega
  have HKL : Hid (k = 64 - l) := by show _ = _; omega
  clear hR
  go_enter Tryd.func92, Tryd.ntmps92
  go_wp2_with fail
  refine Calls.mono HR.out ?_
  rintro e w1 ⟨rfl, rfl⟩
  have hE : (R : Int) / 2 ^ k = ((tr x l : Nat) : Int) := by
    rw [← HT.out, ← HKL.out, Nat.shiftRight_eq_div_pow, Int.natCast_ediv, Int.natCast_pow]
    rfl
  have HE := hideH hE
  clear hE
  go_wp2_with fail
  go_ret
  exact ⟨by rw [← HE.out]; rfl, rfl⟩

set_option maxHeartbeats 1600000 in
theorem l3Turn_any (x n : Nat) (hx : x < 1099511627776) (hn : n ≤ 15) (w : World) : Calls Tryd.prog 74 #[.int .i64 x, .int .i64 n] w fun e w' => e = .returned (.int .u64 (tr x n : Nat)) ∧ w' = w := by
  go_enter Tryd.func74, Tryd.ntmps74
  go_wp2_with fail
  go_loop [0, 5, 6] (fun y o i => ∃ (k X O : Nat), k ≤ n ∧ i = .int .i64 k ∧ y = .int .i64 X ∧ o = .int .u64 O ∧ X < 1099511627776 ∧ O < 32768 ∧ Hid (turn X (n - k) O = tr x n) ∧ Hid (O < 2 ^ k)) (fun _ _ i => n - (intOf i).toNat)
  case atStart => exact ⟨0, x, 0, by omega, rfl, rfl, rfl, hx, by omega, (rfl : turn x (n - 0) 0 = tr x n), (by decide : 0 < 2 ^ 0)⟩
  case round =>
    obtain ⟨k, X, O, hk, rfl, rfl, rfl, hX, hO, HT, HP⟩ := hrel
    by_cases hlt : k < n
    · have HT2 : Hid (turn (X / 2) (n - (k + 1)) (2 * O + X % 2) = tr x n) := by
        show _ = _
        rw [← HT.out, show n - k = (n - (k + 1)) + 1 by omega]
        rfl
      have HP2 : Hid (2 * O + X % 2 < 2 ^ (k + 1)) := by
        show _ < _
        have := HP.out
        rw [Nat.pow_succ]
        omega
      have hO2 : 2 * O + X % 2 < 32768 := Nat.lt_of_lt_of_le HP2.out (Nat.pow_le_pow_right (by decide) (by omega : k + 1 ≤ 15))
      go_wp2_with fail
      go_round
      case rel => exact ⟨k + 1, X / 2, 2 * O + X % 2, by omega, by go_num, by go_num, by go_num, by omega, hO2, HT2, HP2⟩
      case measure => simp [intOf]; omega
    · have e : k = n := by omega
      have hE : O = tr x n := by rw [← HT.out, e, Nat.sub_self]; rfl
      have HE := hideH hE
      clear hE e
      go_wp2_with fail
      go_ret
      exact ⟨by rw [← HE.out]; rfl, rfl⟩

end Go.Proofs.YtlffdadmgginmaeDoor
namespace Go.Proofs.YtlffdadmgginmaeDoor
open Go.RowKit
attribute [local go_sem ↓] Go.wp_at_zero Go.wp_at_succ
set_option linter.unusedVariables false

/-- Sixteen counts as cells. -/
def cells16 (f : Nat → Nat) : List Value := (List.range 16).map (fun i => Value.int .i64 (f i : Nat))
theorem cells16_len (f : Nat → Nat) : (cells16 f).length = 16 := by simp [cells16]
theorem cells16_at (f : Nat → Nat) (i : Nat) (h : i < 16) : (cells16 f)[i]? = some (Value.int .i64 (f i : Nat)) := by simp [cells16, h]

/-- What kind() answers. -/
def kindF (c r f1 : Nat) : Int := if c = 0 then 5 else if 32768 < r then 2 else if r = 32768 then 1 else if c = 1 ∧ f1 = 1 then 4 else 3
theorem kindF_hk {zs : List Int} (h : okB zs = true) : kindF (sumTo (cnt zs) 15) (sumTo (fun l => cnt zs l * 2 ^ (15 - l)) 15) (cnt zs 1) = hk zs := by
  obtain ⟨h1, h2⟩ := okB_ok h
  rw [← nz_cnt zs h2, ← kr_cnt zs h2, hk, h, if_pos rfl, kindF, hkind]
  by_cases n1 : nz zs = 1
  · have := one_has zs h2 n1
    simp only [n1, true_and, this]
  · simp only [n1, false_and]

set_option maxHeartbeats 3200000 in
theorem kindc_any (f : Nat → Nat) (L : List Value) (w : World) (hl : L.length = 16) (hL : ∀ i, i < 16 → L[i]? = some (Value.int .i64 (f i : Nat))) (hf : ∀ i, f i ≤ 320) :
    Calls Tryd.prog 90 #[.agg L.toArray] w fun e w' => e = .returned (.int .i64 (kindF (sumTo f 15) (sumTo (fun l => f l * 2 ^ (15 - l)) 15) (f 1))) ∧ Below w.heap.size w w' := by
  have hC : ∀ i, i < 16 → (w.alloc (.cells L.toArray 150)).cell? ⟨w.heap.size, i, none⟩ = some (.int .i64 (f i : Nat)) := by
    intro i hi
    have := hL i hi
    simp [go_sem, this]
  have hb : Below w.heap.size w (w.alloc (.cells L.toArray 150)) := (Below.refl _ _).alloc (Nat.le_refl _) _
  have HC := hideH hC
  have HB := hideH hb
  have HF := hideH hf
  clear hC hL hl hb hf
  go_enter Tryd.func90, Tryd.ntmps90
  go_wp2_with fail
  go_loop [3, 4, 5] (fun c r l => ∃ (j C R : Nat), j ≤ 15 ∧ l = .int .i64 ((j + 1 : Nat) : Int) ∧ c = .int .i64 C ∧ r = .int .i64 R ∧ Hid (C = sumTo f j) ∧ Hid (R = sumTo (fun l => f l * 2 ^ (15 - l)) j) ∧ C ≤ 320 * j ∧ R ≤ 5242880 * j) (fun _ _ l => 16 - (intOf l).toNat)
  case atStart => exact ⟨0, 0, 0, by omega, rfl, rfl, rfl, (rfl : 0 = sumTo f 0), (rfl : 0 = sumTo _ 0), by omega, by omega⟩
  case round =>
    obtain ⟨j, C, R, hj, rfl, rfl, rfl, HCS, HRS, hCl, hRl⟩ := hrel
    by_cases hlt : j < 15
    · have hc := HC.out (j + 1) (by omega)
      have hfj := HF.out (j + 1)
      obtain ⟨P, hP⟩ : ∃ P, 2 ^ (14 - j) = P := ⟨_, rfl⟩
      have hP1 : P ≤ 16384 := hP ▸ Nat.le_trans (Nat.pow_le_pow_right (by omega) (by omega : 14 - j ≤ 14)) (by decide)
      have HC2 : Hid (C + f (j + 1) = sumTo f (j + 1)) := by show _ = _; rw [sumTo, ← HCS.out]
      have HR2 : Hid (R + f (j + 1) * P = sumTo (fun l => f l * 2 ^ (15 - l)) (j + 1)) := by show _ = _; rw [sumTo, ← HRS.out, show 15 - (j + 1) = 14 - j by omega, hP]
      have hfP : f (j + 1) * P ≤ 5242880 := Nat.le_trans (Nat.mul_le_mul hfj hP1) (by decide)
      generalize f (j + 1) = F at *
      have hPi : ((2 : Int) ^ (14 - j)) = (P : Int) := by rw [← hP]; exact (Int.natCast_pow 2 _).symm
      have hmul : (F : Int) * (P : Int) = ((F * P : Nat) : Int) := (Int.natCast_mul F P).symm
      have HMUL := hideH hmul
      obtain ⟨Q, hQ⟩ : ∃ Q, F * P = Q := ⟨_, rfl⟩
      rw [hQ] at hmul hfP
      have HQ := hideH hQ
      clear hQ
      have hR1 : wrap64 (Q : Int) = (Q : Int) := by unfold wrap64; omega
      have hR2 : wrap64 ((R : Int) + (Q : Int)) = (R : Int) + (Q : Int) := by unfold wrap64; omega
      have hHQ : Hid (R + Q = sumTo (fun l => f l * 2 ^ (15 - l)) (j + 1)) := by show _ = _; rw [← HQ.out]; exact HR2.out
      clear hP HR2 HMUL HQ
      go_wp2_with fail
      go_round
      case rel => exact ⟨j + 1, C + F, R + Q, by omega, by go_num, by go_num, by go_num, HC2, hHQ, by omega, by omega⟩
      case measure => simp [intOf]; omega
    · have e : j = 15 := by omega
      subst e
      obtain ⟨F1, hF1⟩ : ∃ F1, f 1 = F1 := ⟨_, rfl⟩
      have HG : Hid (∀ x : Int, x = kindF C R F1 → Ending.returned (.int .i64 x) = .returned (.int .i64 (kindF (sumTo f 15) (sumTo (fun l => f l * 2 ^ (15 - l)) 15) (f 1)))) := by
        intro x hx
        rw [hx, HCS.out, HRS.out, ← hF1]
      have hc1 := HC.out 1 (by omega)
      rw [hF1] at hc1
      clear HC HF HCS HRS hF1
      by_cases n0 : C = 0
      · have HG2 := hideH (HG.out 5 (by rw [kindF, if_pos n0]))
        subst n0
        go_wp2_with fail
        go_ret
        exact ⟨HG2.out, HB.out⟩
      · by_cases k0 : 32768 < R
        · have HG2 := hideH (HG.out 2 (by rw [kindF, if_neg n0, if_pos k0]))
          go_wp2_with fail
          go_ret
          exact ⟨HG2.out, HB.out⟩
        · by_cases k1 : R = 32768
          · have HG2 := hideH (HG.out 1 (by rw [kindF, if_neg n0, if_neg k0, if_pos k1]))
            subst k1
            go_wp2_with fail
            go_ret
            exact ⟨HG2.out, HB.out⟩
          · have k1b : ((R : Int) == 32768) = false := by simp; omega
            by_cases n1 : C = 1
            · have n1b : ((C : Int) == 1) = true := by simp; omega
              by_cases f1 : F1 = 1
              · have HG2 := hideH (HG.out 4 (by rw [kindF, if_neg n0, if_neg k0, if_neg k1, if_pos ⟨n1, f1⟩]))
                have f1b : ((F1 : Int) == 1) = true := by simp; omega
                clear n1 f1
                go_wp2_with fail
                go_ret
                exact ⟨HG2.out, HB.out⟩
              · have HG2 := hideH (HG.out 3 (by rw [kindF, if_neg n0, if_neg k0, if_neg k1, if_neg (by omega)]))
                have f1b : ((F1 : Int) == 1) = false := by simp; omega
                clear n1
                go_wp2_with fail
                go_ret
                exact ⟨HG2.out, HB.out⟩
            · have HG2 := hideH (HG.out 3 (by rw [kindF, if_neg n0, if_neg k0, if_neg k1, if_neg (by omega)]))
              have n1b : ((C : Int) == 1) = false := by simp; omega
              go_wp2_with fail
              go_ret
              exact ⟨HG2.out, HB.out⟩

end Go.Proofs.YtlffdadmgginmaeDoor
namespace Go.Proofs.YtlffdadmgginmaeDoor
open Go.RowKit
attribute [local go_sem ↓] Go.wp_at_zero Go.wp_at_succ
set_option linter.unusedVariables false

/-- The counts lie at p. -/
structure Cnts (w : World) (p : Nat) (f : Nat → Nat) : Prop where
  at_ : ∀ i, i < 16 → w.cell? ⟨p, i, none⟩ = some (.int .i64 (f i : Nat))
  free : ∀ i, w.frozen? ⟨p, i, none⟩ = false
theorem Cnts.lt {w : World} {p : Nat} {f : Nat → Nat} (h : Cnts w p f) : p < w.heap.size := World.block_lt_of_cell? w _ (h.at_ 0 (by omega))
theorem Cnts.grown {w w' : World} {row : Option Nat} {p : Nat} {f : Nat → Nat} (h : Cnts w p f) (hg : w.grownBy w' row) (hne : some p ≠ row) : Cnts w' p f := by
  have e := hg.block p h.lt hne
  exact ⟨fun i hi => (World.cell?_of_block (w := w) e).trans (h.at_ i hi), fun i => (World.frozen?_of_block (w := w) e).trans (h.free i)⟩
theorem Cnts.range {w : World} {p : Nat} {f : Nat → Nat} (h : Cnts w p f) : w.rangeAt p 0 (cells16 f) := by
  intro j v hv
  have hj : j < 16 := by
    have h1 := (List.getElem?_eq_some_iff.1 hv).1
    rwa [cells16_len] at h1
  rw [cells16_at f j hj] at hv
  simp only [Option.some.injEq] at hv
  subst hv
  rw [Nat.zero_add]
  exact h.at_ j hj
theorem Cnts.there {w : World} {p : Nat} {f : Nat → Nat} (h : Cnts w p f) : w.there p 0 16 := by
  intro j hj
  rw [Nat.zero_add, h.at_ j hj]
  exact ⟨rfl, h.free j⟩
theorem Cnts.bump {w : World} {p : Nat} {f : Nat → Nat} (h : Cnts w p f) {l : Nat} (hl : l < 16) (v : Int) (hv : v = ((f l + 1 : Nat) : Int)) : Cnts (w.setCell ⟨p, l, none⟩ (.int .i64 v)) p (fun i => f i + if i = l then 1 else 0) := by
  refine ⟨fun i hi => ?_, fun i => by rw [World.frozen?_setCell]; exact h.free i⟩
  by_cases e : i = l
  · subst e; subst hv
    rw [World.cell?_setCell_same _ _ _ (h.at_ i hi)]
    simp
  · have e' : ¬ l = i := fun h => e h.symm
    rw [World.cell?_setCell_other _ _ _ _ (by simp), h.at_ i hi]
    simp [e]
theorem Cnts.congr {w : World} {p : Nat} {f g : Nat → Nat} (h : Cnts w p f) (e : ∀ i, f i = g i) : Cnts w p g := ⟨fun i hi => by rw [← e]; exact h.at_ i hi, h.free⟩
theorem Tryd.size_cnts : (Tryd.prog.info? 150).map (·.size) = some 16 := by kernel_rfl
theorem cells16_one (f : Nat → Nat) : ∀ v ∈ cells16 f, v.oneCell' = true := by
  intro v hv
  simp only [cells16, List.mem_map] at hv
  obtain ⟨i, _, rfl⟩ := hv
  rfl

theorem Cnts.new (w : World) (t : TypeId) : Cnts (w.alloc (.cells #[.int .i64 0, .int .i64 0, .int .i64 0, .int .i64 0, .int .i64 0, .int .i64 0, .int .i64 0, .int .i64 0, .int .i64 0, .int .i64 0, .int .i64 0, .int .i64 0, .int .i64 0, .int .i64 0, .int .i64 0, .int .i64 0] t)) w.heap.size (fun _ => 0) := by
  refine ⟨fun i hi => ?_, fun i => by simp [go_sem]⟩
  have h : i = 0 ∨ i = 1 ∨ i = 2 ∨ i = 3 ∨ i = 4 ∨ i = 5 ∨ i = 6 ∨ i = 7 ∨ i = 8 ∨ i = 9 ∨ i = 10 ∨ i = 11 ∨ i = 12 ∨ i = 13 ∨ i = 14 ∨ i = 15 := by omega
  rcases h with rfl | rfl | rfl | rfl | rfl | rfl | rfl | rfl | rfl | rfl | rfl | rfl | rfl | rfl | rfl | rfl <;> simp [go_sem]
theorem grownBy_setCells (b : Nat) : ∀ (vs : List Value) (o : Nat) (w : World), w.grownBy (w.setCells b o vs) (some b)
  | [], _, w => World.grownBy.refl _ _
  | v :: r, o, w => grownBy_trans (grownBy_setCell w ⟨b, o, none⟩ v) (grownBy_setCells b r (o + 1) _)
theorem Cnts.alloc {w : World} {p : Nat} {f : Nat → Nat} (h : Cnts w p f) (o : Obj) : Cnts (w.alloc o) p f := h.grown (World.grownBy_alloc w o none) (by simp)

set_option maxRecDepth 100000 in
set_option maxHeartbeats 6400000 in
theorem countLens_any (ao : Option Addr) (cap : Nat) (zs : List Int) (w : World) (hr : Row64 w ao zs) (hn : zs.length ≤ 1048576) :
    Calls Tryd.prog 89 #[.slice ao zs.length cap] w fun e w' => (∃ L : List Value, e = .returned (.tuple #[.agg L.toArray, .bool (okB zs)]) ∧ L.length = 16 ∧ (∀ v ∈ L, v.oneCell' = true) ∧ (okB zs = true → L = cells16 (cnt zs))) ∧ Below w.heap.size w w' := by
  have hN1 := (Cnts.new (w.alloc (.cells #[.int .i64 0, .int .i64 0, .int .i64 0, .int .i64 0, .int .i64 0, .int .i64 0, .int .i64 0, .int .i64 0, .int .i64 0, .int .i64 0, .int .i64 0, .int .i64 0, .int .i64 0, .int .i64 0, .int .i64 0, .int .i64 0] 150)) 150)
  have hN0 := (Cnts.new w 150).alloc (.cells #[.int .i64 0, .int .i64 0, .int .i64 0, .int .i64 0, .int .i64 0, .int .i64 0, .int .i64 0, .int .i64 0, .int .i64 0, .int .i64 0, .int .i64 0, .int .i64 0, .int .i64 0, .int .i64 0, .int .i64 0, .int .i64 0] 150)
  have hB0 : Below w.heap.size w ((w.alloc (.cells #[.int .i64 0, .int .i64 0, .int .i64 0, .int .i64 0, .int .i64 0, .int .i64 0, .int .i64 0, .int .i64 0, .int .i64 0, .int .i64 0, .int .i64 0, .int .i64 0, .int .i64 0, .int .i64 0, .int .i64 0, .int .i64 0] 150)).alloc (.cells #[.int .i64 0, .int .i64 0, .int .i64 0, .int .i64 0, .int .i64 0, .int .i64 0, .int .i64 0, .int .i64 0, .int .i64 0, .int .i64 0, .int .i64 0, .int .i64 0, .int .i64 0, .int .i64 0, .int .i64 0, .int .i64 0] 150)) := ((Below.refl _ _).alloc (Nat.le_refl _) _).alloc (by simp) _
  simp only [World.size_alloc] at hN1
  have HN1 := hideH hN1
  have HN0 := hideH hN0
  have HB0 := hideH hB0
  have HR := hideH hr
  clear hN1 hN0 hB0 hr
  by_cases hl : zs.length ≤ 320
  · go_enter Tryd.func89, Tryd.ntmps89
    go_wp2_with fail
    go_loopw [13] (fun i wr => ∃ k : Nat, k ≤ zs.length ∧ i = .int .i64 k ∧ Cnts wr (w.heap.size + 1) (cnt (zs.take k)) ∧ Hid (okL (zs.take k)) ∧ (∃ f0, Cnts wr w.heap.size f0) ∧ Below w.heap.size w wr) (fun i _ => zs.length - (intOf i).toNat)
    case atStart => exact ⟨0, Nat.zero_le _, rfl, HN1.out.congr (fun i => by simp [cnt]), (fun z hz => by simp at hz : okL (zs.take 0)), ⟨_, HN0.out⟩, HB0.out⟩
    case round =>
      clear HN1 HN0 HB0
      obtain ⟨k, hk, rfl, hC, HO, ⟨f0, hF0⟩, hB⟩ := hrel
      by_cases hlt : k < zs.length
      · obtain ⟨b, off, rfl, hc⟩ := HR.out.at hlt
        have hb : b < w.heap.size := World.block_lt_of_cell? w _ (hc k hlt)
        have hcx : wr.cell? ⟨b, off + k, none⟩ = some (.int .i64 (zs.getD k 0)) := (hB.cell (by exact hb)).trans (hc k hlt)
        have HBAD : Hid (¬ (0 ≤ zs.getD k 0 ∧ zs.getD k 0 ≤ 15) → okB zs = false) := fun h => okB_bad hlt h
        have HOS : Hid ((0 ≤ zs.getD k 0 ∧ zs.getD k 0 ≤ 15) → okL (zs.take (k + 1))) := fun h => okL_take_succ hlt HO.out h
        have HTS : Hid (∀ i, cnt (zs.take (k + 1)) i = cnt (zs.take k) i + if zs.getD k 0 = (i : Int) then 1 else 0) := by
          intro i
          rw [take_snoc zs k hlt, cnt_app]
        generalize zs.getD k 0 = x at *
        by_cases x0 : x < 0
        · have d0 : decide (x < 0) = true := decide_eq_true x0
          have HF : Hid (okB zs = false) := HBAD.out (by omega)
          obtain ⟨L, hL⟩ : ∃ L, cells16 (cnt (zs.take k)) = L := ⟨_, rfl⟩
          have hrg := hC.range
          have hth := hF0.there
          have hone := cells16_one (cnt (zs.take k))
          have hlen := cells16_len (cnt (zs.take k))
          rw [hL] at hrg hone hlen
          have hsz : (Tryd.prog.info? 150).map (·.size) = some L.length := by rw [hlen]; exact Tryd.size_cnts
          have hth2 : wr.there w.heap.size 0 L.length := by rw [hlen]; exact hth
          have HRS := hideH (World.rangeAt_setCells_same wr w.heap.size 0 L hth2)
          have HBS : Hid (Below w.heap.size w (wr.setCells w.heap.size 0 L)) := hB.grown (grownBy_setCells w.heap.size L 0 wr) hB.size (by intro q e; simp at e; omega)
          have HL := hideH hL
          have HLN := hideH hlen
          have HOV := hideH hone
          have HON := hideH (all_oneCell_toArray hone)
          have HLD := fun W (h : W.rangeAt w.heap.size 0 L) => run_loadVar_mid (P := Tryd.prog) W w.heap.size 0 150 L _ h Tryd.underlying150 rfl hsz
          have HLV := hideH (HLD _ HRS.out)
          clear hth hC hF0 hL hone hlen HLD HRS
          go_wp2_with (first | (refine wpList_load_mid rfl _ _ rfl _ _ rfl L _ hrg Tryd.underlying150 rfl hsz ?_) | (refine wpList_store_mid rfl _ _ _ rfl w.heap.size 0 L.toArray rfl rfl (by simpa using hth2) (by simpa using hsz) HON.out ?_))
          refine bodyPost_ret (v := .tuple #[.agg L.toArray, .bool false]) (by simp [results, Tryd.results89, asAddr, HLV.out]) rfl ⟨⟨L, ?_, HLN.out, HOV.out, ?_⟩, HBS.out⟩
          · rw [HF.out]
          · intro h; rw [HF.out] at h; cases h
        have d0 : decide (x < 0) = false := decide_eq_false x0
        by_cases x1 : 15 < x
        · have d1 : decide (15 < x) = true := decide_eq_true x1
          have HF : Hid (okB zs = false) := HBAD.out (by omega)
          obtain ⟨L, hL⟩ : ∃ L, cells16 (cnt (zs.take k)) = L := ⟨_, rfl⟩
          have hrg := hC.range
          have hth := hF0.there
          have hone := cells16_one (cnt (zs.take k))
          have hlen := cells16_len (cnt (zs.take k))
          rw [hL] at hrg hone hlen
          have hsz : (Tryd.prog.info? 150).map (·.size) = some L.length := by rw [hlen]; exact Tryd.size_cnts
          have hth2 : wr.there w.heap.size 0 L.length := by rw [hlen]; exact hth
          have HRS := hideH (World.rangeAt_setCells_same wr w.heap.size 0 L hth2)
          have HBS : Hid (Below w.heap.size w (wr.setCells w.heap.size 0 L)) := hB.grown (grownBy_setCells w.heap.size L 0 wr) hB.size (by intro q e; simp at e; omega)
          have HL := hideH hL
          have HLN := hideH hlen
          have HOV := hideH hone
          have HON := hideH (all_oneCell_toArray hone)
          have HLD := fun W (h : W.rangeAt w.heap.size 0 L) => run_loadVar_mid (P := Tryd.prog) W w.heap.size 0 150 L _ h Tryd.underlying150 rfl hsz
          have HLV := hideH (HLD _ HRS.out)
          clear hth hC hF0 hL hone hlen HLD HRS
          go_wp2_with (first | (refine wpList_load_mid rfl _ _ rfl _ _ rfl L _ hrg Tryd.underlying150 rfl hsz ?_) | (refine wpList_store_mid rfl _ _ _ rfl w.heap.size 0 L.toArray rfl rfl (by simpa using hth2) (by simpa using hsz) HON.out ?_))
          refine bodyPost_ret (v := .tuple #[.agg L.toArray, .bool false]) (by simp [results, Tryd.results89, asAddr, HLV.out]) rfl ⟨⟨L, ?_, HLN.out, HOV.out, ?_⟩, HBS.out⟩
          · rw [HF.out]
          · intro h; rw [HF.out] at h; cases h
        have d1 : decide (15 < x) = false := decide_eq_false x1
        have HOT := hideH (HOS.out (by omega))
        obtain ⟨l, rfl⟩ : ∃ l : Nat, x = l := ⟨x.toNat, by omega⟩
        have hl16 : l < 16 := by omega
        have hcl := hC.at_ l hl16
        have hfl := hC.free l
        have hcb : cnt (zs.take k) l ≤ 320 := Nat.le_trans (cnt_le _ _) (by simp; omega)
        have hC2 := hC.bump hl16 ((cnt (zs.take k) l : Nat) + 1 : Int) (by simp)
        have HC2 : Hid (Cnts (wr.setCell ⟨w.heap.size + 1, l, none⟩ (.int .i64 ((cnt (zs.take k) l : Nat) + 1 : Int))) (w.heap.size + 1) (cnt (zs.take (k + 1)))) := hC2.congr (fun i => by
          rw [HTS.out i]
          by_cases h : i = l
          · simp [h]
          · have h' : ¬ (l : Int) = (i : Int) := by omega
            simp [h, h'])
        have hg := grownBy_setCell wr ⟨w.heap.size + 1, l, none⟩ (.int .i64 ((cnt (zs.take k) l : Nat) + 1 : Int))
        have HF2 := hideH (hF0.grown hg (by simp))
        have HB2 := hideH (hB.grown hg hB.size (by intro q e; simp at e; omega))
        have h1 : (l : Int) ≤ 15 := by omega
        clear hc hC hF0 hB HTS hC2 hg HBAD HOS
        generalize cnt (zs.take k) l = Cn at *
        go_wp2_with fail
        go_roundw
        case rel => exact ⟨k + 1, by omega, by go_num, HC2.out, HOT, ⟨_, HF2.out⟩, HB2.out⟩
        case measure => simp [intOf]; omega
      · have e : k = zs.length := by omega
        have HF : Hid (okB zs = true) := okB_of hl (by have := HO.out; rw [e, List.take_length] at this; exact this)
        have HE : Hid (cnt (zs.take k) = cnt zs) := by show _ = _; rw [e, List.take_length]
        clear e
        obtain ⟨L, hL⟩ : ∃ L, cells16 (cnt (zs.take k)) = L := ⟨_, rfl⟩
        have hrg := hC.range
        have hth := hF0.there
        have hone := cells16_one (cnt (zs.take k))
        have hlen := cells16_len (cnt (zs.take k))
        rw [hL] at hrg hone hlen
        have hsz : (Tryd.prog.info? 150).map (·.size) = some L.length := by rw [hlen]; exact Tryd.size_cnts
        have hth2 : wr.there w.heap.size 0 L.length := by rw [hlen]; exact hth
        have HRS := hideH (World.rangeAt_setCells_same wr w.heap.size 0 L hth2)
        have HBS : Hid (Below w.heap.size w (wr.setCells w.heap.size 0 L)) := hB.grown (grownBy_setCells w.heap.size L 0 wr) hB.size (by intro q e; simp at e; omega)
        have HL := hideH hL
        have HLN := hideH hlen
        have HOV := hideH hone
        have HON := hideH (all_oneCell_toArray hone)
        have HLD := fun W (h : W.rangeAt w.heap.size 0 L) => run_loadVar_mid (P := Tryd.prog) W w.heap.size 0 150 L _ h Tryd.underlying150 rfl hsz
        have HLV := hideH (HLD _ HRS.out)
        clear hth hC hF0 hL hone hlen HLD HRS
        go_wp2_with (first | (refine wpList_load_mid rfl _ _ rfl _ _ rfl L _ hrg Tryd.underlying150 rfl hsz ?_) | (refine wpList_store_mid rfl _ _ _ rfl w.heap.size 0 L.toArray rfl rfl (by simpa using hth2) (by simpa using hsz) HON.out ?_))
        refine bodyPost_ret (v := .tuple #[.agg L.toArray, .bool true]) (by simp [results, Tryd.results89, asAddr, HLV.out]) rfl ⟨⟨L, ?_, HLN.out, HOV.out, ?_⟩, HBS.out⟩
        · rw [HF.out]
        · intro _; rw [← HL.out, HE.out]
  · have HF : Hid (okB zs = false) := okB_long hl
    have hC := HN1.out
    have hF0 := HN0.out
    have hB := HB0.out
    obtain ⟨wr, hwr⟩ : ∃ wr, wr = (w.alloc (.cells #[.int .i64 0, .int .i64 0, .int .i64 0, .int .i64 0, .int .i64 0, .int .i64 0, .int .i64 0, .int .i64 0, .int .i64 0, .int .i64 0, .int .i64 0, .int .i64 0, .int .i64 0, .int .i64 0, .int .i64 0, .int .i64 0] 150)).alloc (.cells #[.int .i64 0, .int .i64 0, .int .i64 0, .int .i64 0, .int .i64 0, .int .i64 0, .int .i64 0, .int .i64 0, .int .i64 0, .int .i64 0, .int .i64 0, .int .i64 0, .int .i64 0, .int .i64 0, .int .i64 0, .int .i64 0] 150) := ⟨_, rfl⟩
    rw [← hwr] at hC hF0 hB
    obtain ⟨L, hL⟩ : ∃ L, cells16 (fun _ => 0) = L := ⟨_, rfl⟩
    have hrg := hC.range
    have hth := hF0.there
    have hone := cells16_one (fun _ => 0)
    have hlen := cells16_len (fun _ => 0)
    rw [hL] at hrg hone hlen
    have hsz : (Tryd.prog.info? 150).map (·.size) = some L.length := by rw [hlen]; exact Tryd.size_cnts
    have hth2 : wr.there w.heap.size 0 L.length := by rw [hlen]; exact hth
    have HRS := hideH (World.rangeAt_setCells_same wr w.heap.size 0 L hth2)
    have HBS : Hid (Below w.heap.size w (wr.setCells w.heap.size 0 L)) := hB.grown (grownBy_setCells w.heap.size L 0 wr) hB.size (by intro q e; simp at e; omega)
    have HLN := hideH hlen
    have HOV := hideH hone
    have HON := hideH (all_oneCell_toArray hone)
    have HLV := hideH (run_loadVar_mid (P := Tryd.prog) _ w.heap.size 0 150 L _ HRS.out Tryd.underlying150 rfl hsz)
    subst hwr
    clear hth hC hF0 hL hone hlen HRS
    go_enter Tryd.func89, Tryd.ntmps89
    go_wp2_with (first | (refine wpList_load_mid rfl _ _ rfl _ _ rfl L _ hrg Tryd.underlying150 rfl hsz ?_) | (refine wpList_store_mid rfl _ _ _ rfl w.heap.size 0 L.toArray rfl rfl (by simpa using hth2) (by simpa using hsz) HON.out ?_))
    refine bodyPost_ret (v := .tuple #[.agg L.toArray, .bool false]) (by simp [results, Tryd.results89, asAddr, HLV.out]) rfl ⟨⟨L, ?_, HLN.out, HOV.out, ?_⟩, HBS.out⟩
    · rw [HF.out]
    · intro h; rw [HF.out] at h; cases h

end Go.Proofs.YtlffdadmgginmaeDoor
namespace Go.Proofs.YtlffdadmgginmaeDoor
open Go.RowKit
attribute [local go_sem ↓] Go.wp_at_zero Go.wp_at_succ
set_option linter.unusedVariables false

def cells16u (f : Nat → Nat) : List Value := (List.range 16).map (fun i => Value.int .u64 (f i : Nat))
theorem cells16u_len (f : Nat → Nat) : (cells16u f).length = 16 := by simp [cells16u]
theorem cells16u_at (f : Nat → Nat) (i : Nat) (h : i < 16) : (cells16u f)[i]? = some (Value.int .u64 (f i : Nat)) := by simp [cells16u, h]
/-- Sixteen uint64 lie at p. -/
structure CntU (w : World) (p : Nat) (f : Nat → Nat) : Prop where
  at_ : ∀ i, i < 16 → w.cell? ⟨p, i, none⟩ = some (.int .u64 (f i : Nat))
  free : ∀ i, w.frozen? ⟨p, i, none⟩ = false
theorem CntU.lt {w : World} {p : Nat} {f : Nat → Nat} (h : CntU w p f) : p < w.heap.size := World.block_lt_of_cell? w _ (h.at_ 0 (by omega))
theorem CntU.grown {w w' : World} {row : Option Nat} {p : Nat} {f : Nat → Nat} (h : CntU w p f) (hg : w.grownBy w' row) (hne : some p ≠ row) : CntU w' p f := by
  have e := hg.block p h.lt hne
  exact ⟨fun i hi => (World.cell?_of_block (w := w) e).trans (h.at_ i hi), fun i => (World.frozen?_of_block (w := w) e).trans (h.free i)⟩
theorem CntU.range {w : World} {p : Nat} {f : Nat → Nat} (h : CntU w p f) : w.rangeAt p 0 (cells16u f) := by
  intro j v hv
  have hj : j < 16 := by
    have h1 := (List.getElem?_eq_some_iff.1 hv).1
    rwa [cells16u_len] at h1
  rw [cells16u_at f j hj] at hv
  simp only [Option.some.injEq] at hv
  subst hv
  rw [Nat.zero_add]
  exact h.at_ j hj
theorem CntU.there {w : World} {p : Nat} {f : Nat → Nat} (h : CntU w p f) : w.there p 0 16 := by
  intro j hj
  rw [Nat.zero_add, h.at_ j hj]
  exact ⟨rfl, h.free j⟩
theorem CntU.bump {w : World} {p : Nat} {f : Nat → Nat} (h : CntU w p f) {l : Nat} (hl : l < 16) (v : Int) (hv : v = ((f l + 1 : Nat) : Int)) : CntU (w.setCell ⟨p, l, none⟩ (.int .u64 v)) p (fun i => f i + if i = l then 1 else 0) := by
  refine ⟨fun i hi => ?_, fun i => by rw [World.frozen?_setCell]; exact h.free i⟩
  by_cases e : i = l
  · subst e; subst hv
    rw [World.cell?_setCell_same _ _ _ (h.at_ i hi)]
    simp
  · have e' : ¬ l = i := fun h => e h.symm
    rw [World.cell?_setCell_other _ _ _ _ (by simp), h.at_ i hi]
    simp [e]
theorem CntU.congr {w : World} {p : Nat} {f g : Nat → Nat} (h : CntU w p f) (e : ∀ i, f i = g i) : CntU w p g := ⟨fun i hi => by rw [← e]; exact h.at_ i hi, h.free⟩
theorem Tryd.size_cntu : (Tryd.prog.info? 153).map (·.size) = some 16 := by kernel_rfl
theorem cells16u_one (f : Nat → Nat) : ∀ v ∈ cells16u f, v.oneCell' = true := by
  intro v hv
  simp only [cells16u, List.mem_map] at hv
  obtain ⟨i, _, rfl⟩ := hv
  rfl

theorem CntU.new (w : World) (t : TypeId) : CntU (w.alloc (.cells #[.int .u64 0, .int .u64 0, .int .u64 0, .int .u64 0, .int .u64 0, .int .u64 0, .int .u64 0, .int .u64 0, .int .u64 0, .int .u64 0, .int .u64 0, .int .u64 0, .int .u64 0, .int .u64 0, .int .u64 0, .int .u64 0] t)) w.heap.size (fun _ => 0) := by
  refine ⟨fun i hi => ?_, fun i => by simp [go_sem]⟩
  have h : i = 0 ∨ i = 1 ∨ i = 2 ∨ i = 3 ∨ i = 4 ∨ i = 5 ∨ i = 6 ∨ i = 7 ∨ i = 8 ∨ i = 9 ∨ i = 10 ∨ i = 11 ∨ i = 12 ∨ i = 13 ∨ i = 14 ∨ i = 15 := by omega
  rcases h with rfl | rfl | rfl | rfl | rfl | rfl | rfl | rfl | rfl | rfl | rfl | rfl | rfl | rfl | rfl | rfl <;> simp [go_sem]
theorem CntU.alloc {w : World} {p : Nat} {f : Nat → Nat} (h : CntU w p f) (o : Obj) : CntU (w.alloc o) p f := h.grown (World.grownBy_alloc w o none) (by simp)
theorem CntU.set {w : World} {p : Nat} {f : Nat → Nat} (h : CntU w p f) {l : Nat} (hl : l < 16) (v : Nat) : CntU (w.setCell ⟨p, l, none⟩ (.int .u64 v)) p (fun i => if i = l then v else f i) := by
  refine ⟨fun i hi => ?_, fun i => by rw [World.frozen?_setCell]; exact h.free i⟩
  by_cases e : i = l
  · subst e
    rw [World.cell?_setCell_same _ _ _ (h.at_ i hi)]
    simp
  · have e' : ¬ l = i := fun h => e h.symm
    rw [World.cell?_setCell_other _ _ _ _ (by simp), h.at_ i hi]
    simp [e]

theorem CntU.congr16 {w : World} {p : Nat} {f g : Nat → Nat} (h : CntU w p f) (e : ∀ i, i < 16 → f i = g i) : CntU w p g := ⟨fun i hi => by rw [← e i hi]; exact h.at_ i hi, h.free⟩

/-- The first code of each length. -/
def fst (f : Nat → Nat) : Nat → Nat
  | 0 => 0
  | 1 => 0
  | l + 2 => 2 * (fst f (l + 1) + f (l + 1))
theorem fst_le (f : Nat → Nat) (hf : ∀ i, f i ≤ 320) : ∀ l, fst f l + 640 ≤ 640 * 2 ^ l
  | 0 => by simp [fst]
  | 1 => by simp [fst]
  | l + 2 => by
    have h1 := fst_le f hf (l + 1)
    have h2 := hf (l + 1)
    have e : 2 ^ (l + 2) = 2 * 2 ^ (l + 1) := by rw [Nat.pow_succ]; omega
    rw [fst, e]
    omega
/-- The first n of them. -/
def fstTo (f : Nat → Nat) (n i : Nat) : Nat := if i < n then fst f i else 0

set_option maxRecDepth 100000 in
set_option maxHeartbeats 3200000 in
theorem firstCodes_any (f : Nat → Nat) (L : List Value) (w : World) (hl : L.length = 16) (hL : ∀ i, i < 16 → L[i]? = some (Value.int .i64 (f i : Nat))) (hf : ∀ i, f i ≤ 320) :
    Calls Tryd.prog 91 #[.agg L.toArray] w fun e w' => e = .returned (.agg (cells16u (fst f)).toArray) ∧ Below w.heap.size w w' := by
  have hC : ∀ i, i < 16 → (w.alloc (.cells L.toArray 150)).cell? ⟨w.heap.size, i, none⟩ = some (.int .i64 (f i : Nat)) := by
    intro i hi
    have := hL i hi
    simp [go_sem, this]
  have C0 : Cnts (w.alloc (.cells L.toArray 150)) w.heap.size f := ⟨hC, fun i => by simp [go_sem]⟩
  have C2 := (C0.alloc (.cells #[.int .u64 0, .int .u64 0, .int .u64 0, .int .u64 0, .int .u64 0, .int .u64 0, .int .u64 0, .int .u64 0, .int .u64 0, .int .u64 0, .int .u64 0, .int .u64 0, .int .u64 0, .int .u64 0, .int .u64 0, .int .u64 0] 153)).alloc (.cells #[.int .u64 0, .int .u64 0, .int .u64 0, .int .u64 0, .int .u64 0, .int .u64 0, .int .u64 0, .int .u64 0, .int .u64 0, .int .u64 0, .int .u64 0, .int .u64 0, .int .u64 0, .int .u64 0, .int .u64 0, .int .u64 0] 153)
  have R2 := (CntU.new (w.alloc (.cells L.toArray 150)) 153).alloc (.cells #[.int .u64 0, .int .u64 0, .int .u64 0, .int .u64 0, .int .u64 0, .int .u64 0, .int .u64 0, .int .u64 0, .int .u64 0, .int .u64 0, .int .u64 0, .int .u64 0, .int .u64 0, .int .u64 0, .int .u64 0, .int .u64 0] 153)
  have F2 := CntU.new ((w.alloc (.cells L.toArray 150)).alloc (.cells #[.int .u64 0, .int .u64 0, .int .u64 0, .int .u64 0, .int .u64 0, .int .u64 0, .int .u64 0, .int .u64 0, .int .u64 0, .int .u64 0, .int .u64 0, .int .u64 0, .int .u64 0, .int .u64 0, .int .u64 0, .int .u64 0] 153)) 153
  have B2 : Below w.heap.size w (((w.alloc (.cells L.toArray 150)).alloc (.cells #[.int .u64 0, .int .u64 0, .int .u64 0, .int .u64 0, .int .u64 0, .int .u64 0, .int .u64 0, .int .u64 0, .int .u64 0, .int .u64 0, .int .u64 0, .int .u64 0, .int .u64 0, .int .u64 0, .int .u64 0, .int .u64 0] 153)).alloc (.cells #[.int .u64 0, .int .u64 0, .int .u64 0, .int .u64 0, .int .u64 0, .int .u64 0, .int .u64 0, .int .u64 0, .int .u64 0, .int .u64 0, .int .u64 0, .int .u64 0, .int .u64 0, .int .u64 0, .int .u64 0, .int .u64 0] 153)) := (((Below.refl _ _).alloc (Nat.le_refl _) _).alloc (by simp) _).alloc (by simp; omega) _
  simp only [World.size_alloc] at R2 F2
  have HC2 := hideH C2
  have HR2 := hideH R2
  have HF2 := hideH F2
  have HB2 := hideH B2
  have HF := hideH hf
  clear hC C0 C2 R2 F2 B2 hf hL hl
  go_enter Tryd.func91, Tryd.ntmps91
  go_wp2_with fail
  go_loopw [4] (fun i wr => ∃ j : Nat, j ≤ 14 ∧ i = .int .i64 ((j + 2 : Nat) : Int) ∧ Cnts wr w.heap.size f ∧ CntU wr (w.heap.size + 1 + 1) (fstTo f (j + 2)) ∧ (∃ g, CntU wr (w.heap.size + 1) g) ∧ Below w.heap.size w wr) (fun i _ => 16 - (intOf i).toNat)
  case atStart =>
    refine ⟨0, by omega, rfl, HC2.out, HF2.out.congr (fun i => ?_), ⟨_, HR2.out⟩, HB2.out⟩
    unfold fstTo
    split
    · rename_i h
      have : i = 0 ∨ i = 1 := by omega
      rcases this with rfl | rfl <;> rfl
    · rfl
  case round =>
    clear HC2 HR2 HF2 HB2
    obtain ⟨j, hj, rfl, hC, hU, ⟨g, hG⟩, hB⟩ := hrel
    by_cases hlt : j < 14
    · obtain ⟨Lh, hLh⟩ : ∃ Lh, j + 2 = Lh := ⟨_, rfl⟩
      obtain ⟨M, hM⟩ : ∃ M, j + 1 = M := ⟨_, rfl⟩
      have hLM : (Lh : Int) - 1 = (M : Int) := by omega
      have hM16 : M < 16 := by omega
      have hL16 : Lh < 16 := by omega
      have cu := hU.at_ M hM16
      have cc := hC.at_ M hM16
      have cl := hU.at_ Lh hL16
      have fl := hU.free Lh
      have hfm : fstTo f (j + 2) M = fst f M := if_pos (by omega)
      rw [hfm] at cu
      have hfC := HF.out M
      have hfA : fst f M ≤ 640 * 2 ^ M := Nat.le_trans (Nat.le_add_right _ _) (fst_le f HF.out M)
      have hpM : 2 ^ M ≤ 32768 := Nat.le_trans (Nat.pow_le_pow_right (by decide) (by omega : M ≤ 15)) (by decide)
      have hfA2 : fst f M ≤ 20971520 := Nat.le_trans hfA (Nat.le_trans (Nat.mul_le_mul_left 640 hpM) (by decide))
      have hnew : fst f Lh = 2 * (fst f M + f M) := by rw [← hLh, ← hM]; rfl
      obtain ⟨S, hS⟩ : ∃ S : Nat, (fst f M : Int) + (f M : Int) = (S : Int) := ⟨fst f M + f M, by omega⟩
      obtain ⟨T, hT⟩ : ∃ T : Nat, (S : Int) * 2 = (T : Int) := ⟨S * 2, by omega⟩
      have hTe : T = fst f Lh := by omega
      have hU2 := (hU.set hL16 T).congr (g := fstTo f (j + 1 + 2)) (fun i => by
        unfold fstTo
        by_cases e : i = Lh
        · rw [if_pos e, if_pos (by omega), e]; exact hTe
        · rw [if_neg e]
          by_cases h2 : i < j + 2
          · rw [if_pos h2, if_pos (by omega)]
          · rw [if_neg h2, if_neg (by omega)])
      have hg : wr.grownBy (wr.setCell ⟨w.heap.size + 1 + 1, Lh, none⟩ (.int .u64 T)) (some (w.heap.size + 1 + 1)) := grownBy_setCell _ _ _
      have HU2 : Hid (CntU (wr.setCell ⟨w.heap.size + 1 + 1, Lh, none⟩ (.int .u64 T)).drew (w.heap.size + 1 + 1) (fstTo f (j + 1 + 2))) := ⟨hU2.at_, hU2.free⟩
      have hC2 := hC.grown hg (by simp; omega)
      have HC2 : Hid (Cnts (wr.setCell ⟨w.heap.size + 1 + 1, Lh, none⟩ (.int .u64 T)).drew w.heap.size f) := ⟨hC2.at_, hC2.free⟩
      have hG2 := hG.grown hg (by simp)
      have HG2 : Hid (CntU (wr.setCell ⟨w.heap.size + 1 + 1, Lh, none⟩ (.int .u64 T)).drew (w.heap.size + 1) g) := ⟨hG2.at_, hG2.free⟩
      have HB2 : Hid (Below w.heap.size w (wr.setCell ⟨w.heap.size + 1 + 1, Lh, none⟩ (.int .u64 T)).drew) := (hB.grown hg hB.size (by intro q e; simp at e; omega)).drew
      have w1 : IntKind.i64.wrap (M : Int) = (M : Int) := by rw [IntKind.wrap_i64]; omega
      have w2 : IntKind.u64.wrap (f M : Int) = (f M : Int) := by rw [IntKind.wrap_u64]; omega
      have w3 : IntKind.u64.wrap (S : Int) = (S : Int) := by rw [IntKind.wrap_u64]; omega
      have w4 : IntKind.u64.wrap (T : Int) = (T : Int) := by rw [IntKind.wrap_u64]; omega
      have m1 : (M : Int) < 16 := by omega
      have m2 : (Lh : Int) < 16 := by omega
      have hmeas : Hid (j + 2 = Lh) := hLh
      have hLi : ((j + 2 : Nat) : Int) = (Lh : Int) := by omega
      rw [hLi]
      generalize fst f M = A at *
      generalize f M = Cm at *
      generalize fstTo f (j + 2) Lh = Z at *
      clear hU hC hG hB hU2 hC2 hG2 hg hLh hM hnew hTe hfA hpM hLi hfm
      go_wp2_with fail
      go_region
      go_wp2_with fail
      go_roundw
      case rel => exact ⟨j + 1, by omega, by have := hmeas.out; simp; omega, HC2.out, HU2.out, ⟨g, HG2.out⟩, HB2.out⟩
      case measure => have := hmeas.out; simp [intOf]; omega
    · have e : j = 14 := by omega
      subst e
      have hU' := hU.congr16 (g := fst f) (fun i hi => if_pos (by omega))
      obtain ⟨K, hK⟩ : ∃ K, cells16u (fst f) = K := ⟨_, rfl⟩
      have hrg := hU'.range
      have hth := hG.there
      have hone := cells16u_one (fst f)
      have hlen := cells16u_len (fst f)
      rw [hK] at hrg hone hlen
      have hsz : (Tryd.prog.info? 153).map (·.size) = some K.length := by rw [hlen]; exact Tryd.size_cntu
      have hth2 : wr.there (w.heap.size + 1) 0 K.length := by rw [hlen]; exact hth
      have HBS : Hid (Below w.heap.size w (wr.setCells (w.heap.size + 1) 0 K)) := hB.grown (grownBy_setCells (w.heap.size + 1) K 0 wr) hB.size (by intro q e; simp at e; omega)
      have HK := hideH hK
      have HON := hideH (all_oneCell_toArray hone)
      have HLV := hideH (run_loadVar_mid (P := Tryd.prog) _ (w.heap.size + 1) 0 153 K _ (World.rangeAt_setCells_same wr (w.heap.size + 1) 0 K hth2) Tryd.underlying153 rfl hsz)
      clear hth hC hU hU' hG hK hone hlen
      go_wp2_with (first | (refine wpList_load_mid rfl _ _ rfl _ _ rfl K _ hrg Tryd.underlying153 rfl hsz ?_) | (refine wpList_store_mid rfl _ _ _ rfl (w.heap.size + 1) 0 K.toArray rfl rfl (by simpa using hth2) (by simpa using hsz) HON.out ?_))
      exact bodyPost_ret (v := .agg K.toArray) (by simp [results, Tryd.results91, asAddr, Act.put, HLV.out]) rfl ⟨by rw [HK.out], HBS.out⟩

end Go.Proofs.YtlffdadmgginmaeDoor
