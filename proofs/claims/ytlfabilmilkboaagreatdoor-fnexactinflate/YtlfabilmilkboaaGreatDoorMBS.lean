import Derived.Test.YtlfabilmilkboaaGreatDoorMBM
import Derived.Test.YtlfabilmilkboaaGreatDoorMBR
namespace Go.Proofs.YtlfabilmilkboaaGreatDoor
open Go.RowKit
set_option linter.unusedVariables false

theorem OwnsB.lower2 {e B : Nat} {w : World} {ao : Option Addr} {cap : Nat} {zs : List Int} (h : OwnsB e B w ao cap zs) : ∀ g, blk ao = some g → g < w.heap.size := by
  intro g e
  cases ao with
  | none => cases e
  | some ad =>
    have := (h.mine.lies ad rfl).2.1
    simp [blk] at e
    omega
/-- What a function of the model's keeps: its place, what was told, and the two answers to be, in four blocks from z on. -/
structure SM (z : Nat) (w : World) (v : Value) (i cl : Int) (tv : Value) (D s : Int) : Prop where
  r : L5m w z v i cl
  t0 : w.cell? ⟨z + 1, 0, none⟩ = some tv
  t1 : w.cell? ⟨z + 1, 1, none⟩ = some (.int .i64 D)
  t2 : w.cell? ⟨z + 1, 2, none⟩ = some (.int .i64 s)
  t3 : w.cell? ⟨z + 1, 3, none⟩ = some (.int .i64 100000)
  x : L5m w (z + 2) (.slice none 0 0) 0 0
  y0 : w.cell? ⟨z + 3, 0, none⟩ = some (.slice none 0 0)
  y1 : w.cell? ⟨z + 3, 1, none⟩ = some (.int .i64 0)
  y2 : w.cell? ⟨z + 3, 2, none⟩ = some (.int .i64 0)
  y3 : w.cell? ⟨z + 3, 3, none⟩ = some (.int .i64 0)
  tf : ∀ o, w.frozen? ⟨z + 1, o, none⟩ = false
  yf : ∀ o, w.frozen? ⟨z + 3, o, none⟩ = false
theorem SM.lt {z : Nat} {w : World} {v : Value} {i cl : Int} {tv : Value} {D s : Int} (h : SM z w v i cl tv D s) : z + 3 < w.heap.size := World.block_lt_of_cell? w _ h.y0
theorem SM.grown {z : Nat} {w w' : World} {row : Option Nat} {v : Value} {i cl : Int} {tv : Value} {D s : Int} (h : SM z w v i cl tv D s) (hg : w.grownBy w' row) (hne : ∀ k, row = some k → k < z ∨ z + 4 ≤ k) : SM z w' v i cl tv D s := by
  have hl := h.lt
  have n1 : some (z + 1) ≠ row := fun e => by have := hne _ e.symm; omega
  have n3 : some (z + 3) ≠ row := fun e => by have := hne _ e.symm; omega
  have e1 := hg.block (z + 1) (by omega) n1
  have e3 := hg.block (z + 3) (by omega) n3
  have c1 : ∀ o, w'.cell? ⟨z + 1, o, none⟩ = w.cell? ⟨z + 1, o, none⟩ := fun o => World.cell?_of_block (w := w) (a := ⟨z + 1, o, none⟩) e1
  have c3 : ∀ o, w'.cell? ⟨z + 3, o, none⟩ = w.cell? ⟨z + 3, o, none⟩ := fun o => World.cell?_of_block (w := w) (a := ⟨z + 3, o, none⟩) e3
  exact ⟨h.r.grown hg (fun e => by have := hne _ e.symm; omega), (c1 0).trans h.t0, (c1 1).trans h.t1, (c1 2).trans h.t2, (c1 3).trans h.t3, h.x.grown hg (fun e => by have := hne _ e.symm; omega), (c3 0).trans h.y0, (c3 1).trans h.y1, (c3 2).trans h.y2, (c3 3).trans h.y3,
    fun o => (World.frozen?_of_block (w := w) (a := ⟨z + 1, o, none⟩) e1).trans (h.tf o), fun o => (World.frozen?_of_block (w := w) (a := ⟨z + 3, o, none⟩) e3).trans (h.yf o)⟩
theorem SM.below {z : Nat} {w w' : World} {v : Value} {i cl : Int} {tv : Value} {D s : Int} (h : SM z w v i cl tv D s) (hb : Below w.heap.size w w') : SM z w' v i cl tv D s := h.grown (grownBy_of_below hb none) (fun k e => by cases e)
/-- The four blocks. -/
def w4 (w : World) (v : Value) (i cl : Int) (tv : Value) (D s : Int) (tr tt : TypeId) : World :=
  (((w.alloc (.cells #[v, .int .i64 i, .int .i64 cl] tr)).alloc (.cells #[tv, .int .i64 D, .int .i64 s, .int .i64 100000] tt)).alloc (.cells #[.slice none 0 0, .int .i64 0, .int .i64 0] tr)).alloc (.cells #[.slice none 0 0, .int .i64 0, .int .i64 0, .int .i64 0] tt)
theorem w4_below (w : World) (v : Value) (i cl : Int) (tv : Value) (D s : Int) (tr tt : TypeId) : Below w.heap.size w (w4 w v i cl tv D s tr tt) :=
  (((((Below.refl _ _).alloc (Nat.le_refl _) _).alloc (by simp) _).alloc (by simp; omega) _).alloc (by simp; omega) _)
theorem w4_size (w : World) (v : Value) (i cl : Int) (tv : Value) (D s : Int) (tr tt : TypeId) : (w4 w v i cl tv D s tr tt).heap.size = w.heap.size + 4 := by unfold w4; simp
theorem w4_cells (w : World) (A0 A1 A2 A3 : Obj) : ((((w.alloc A0).alloc A1).alloc A2).alloc A3).heap[w.heap.size]? = some A0 ∧ ((((w.alloc A0).alloc A1).alloc A2).alloc A3).heap[w.heap.size + 1]? = some A1 ∧ ((((w.alloc A0).alloc A1).alloc A2).alloc A3).heap[w.heap.size + 2]? = some A2 ∧ ((((w.alloc A0).alloc A1).alloc A2).alloc A3).heap[w.heap.size + 3]? = some A3 := by
  simp only [World.alloc, Array.getElem?_push, Array.size_push]
  refine ⟨?_, ?_, ?_, ?_⟩
  · rw [if_neg (by omega), if_neg (by omega), if_neg (by omega), if_pos trivial]
  · rw [if_neg (by omega), if_neg (by omega), if_pos trivial]
  · rw [if_neg (by omega), if_pos trivial]
  · rw [if_pos trivial]
theorem sm_new (w : World) (v : Value) (i cl : Int) (tv : Value) (D s : Int) (tr tt : TypeId) : SM w.heap.size (w4 w v i cl tv D s tr tt) v i cl tv D s := by
  obtain ⟨h0, h1, h2, h3⟩ := w4_cells w (.cells #[v, .int .i64 i, .int .i64 cl] tr) (.cells #[tv, .int .i64 D, .int .i64 s, .int .i64 100000] tt) (.cells #[.slice none 0 0, .int .i64 0, .int .i64 0] tr) (.cells #[.slice none 0 0, .int .i64 0, .int .i64 0, .int .i64 0] tt)
  have g : ∀ (b : Nat) (A : Array Value) (t : TypeId), (w4 w v i cl tv D s tr tt).heap[b]? = some (.cells A t) → (∀ o : Nat, (w4 w v i cl tv D s tr tt).cell? ⟨b, o, none⟩ = A[o]?) ∧ ∀ o : Nat, (w4 w v i cl tv D s tr tt).frozen? ⟨b, o, none⟩ = false := by
    intro b A t h
    refine ⟨fun o => ?_, fun o => ?_⟩
    · simp [World.cell?, h]
    · simp [World.frozen?, h]
  obtain ⟨a0, f0⟩ := g _ _ _ h0
  obtain ⟨a1, f1⟩ := g _ _ _ h1
  obtain ⟨a2, f2⟩ := g _ _ _ h2
  obtain ⟨a3, f3⟩ := g _ _ _ h3
  exact ⟨⟨a0 0, a0 1, a0 2, f0⟩, a1 0, a1 1, a1 2, a1 3, ⟨a2 0, a2 1, a2 2, f2⟩, a3 0, a3 1, a3 2, a3 3, f1, f3⟩
/-- The place is written. -/
def wR (w : World) (z : Nat) (v : Value) (i cl : Int) : World := ((w.setCell ⟨z, 0, none⟩ v).setCell ⟨z, 1, none⟩ (.int .i64 i)).setCell ⟨z, 2, none⟩ (.int .i64 cl)
/-- What was told is written. -/
def wT (w : World) (z : Nat) (tv : Value) (D s : Int) : World := (((w.setCell ⟨z, 0, none⟩ tv).setCell ⟨z, 1, none⟩ (.int .i64 D)).setCell ⟨z, 2, none⟩ (.int .i64 s)).setCell ⟨z, 3, none⟩ (.int .i64 100000)
theorem wR_grown (w : World) (z : Nat) (v : Value) (i cl : Int) : w.grownBy (wR w z v i cl) (some z) := grownBy_trans (grownBy_trans (grownBy_setCell w ⟨z, 0, none⟩ _) (grownBy_setCell _ ⟨z, 1, none⟩ _)) (grownBy_setCell _ ⟨z, 2, none⟩ _)
theorem wT_grown (w : World) (z : Nat) (tv : Value) (D s : Int) : w.grownBy (wT w z tv D s) (some z) := grownBy_trans (grownBy_trans (grownBy_trans (grownBy_setCell w ⟨z, 0, none⟩ _) (grownBy_setCell _ ⟨z, 1, none⟩ _)) (grownBy_setCell _ ⟨z, 2, none⟩ _)) (grownBy_setCell _ ⟨z, 3, none⟩ _)
theorem grown_cell {w w' : World} {row : Nat} (hg : w.grownBy w' (some row)) {b : Nat} (hb : b < w.heap.size) (hne : b ≠ row) (o : Nat) : w'.cell? ⟨b, o, none⟩ = w.cell? ⟨b, o, none⟩ := World.cell?_of_block (w := w) (a := ⟨b, o, none⟩) (hg.block b hb (by simp; exact hne))
theorem grown_frozen {w w' : World} {row : Nat} (hg : w.grownBy w' (some row)) {b : Nat} (hb : b < w.heap.size) (hne : b ≠ row) (o : Nat) : w'.frozen? ⟨b, o, none⟩ = w.frozen? ⟨b, o, none⟩ := World.frozen?_of_block (w := w) (a := ⟨b, o, none⟩) (hg.block b hb (by simp; exact hne))
theorem SM.setR {z : Nat} {w : World} {v : Value} {i cl : Int} {tv : Value} {D s : Int} (h : SM z w v i cl tv D s) (v' : Value) (i' cl' : Int) : SM z (wR w z v' i' cl') v' i' cl' tv D s := by
  have hl := h.lt
  have hg := wR_grown w z v' i' cl'
  have c : ∀ b o, b < w.heap.size → b ≠ z → (wR w z v' i' cl').cell? ⟨b, o, none⟩ = w.cell? ⟨b, o, none⟩ := fun b o hb hne => grown_cell hg hb hne o
  have f : ∀ b o, b < w.heap.size → b ≠ z → (wR w z v' i' cl').frozen? ⟨b, o, none⟩ = w.frozen? ⟨b, o, none⟩ := fun b o hb hne => grown_frozen hg hb hne o
  exact ⟨(h.r.set v' i' cl').1, (c (z + 1) 0 (by omega) (by omega)).trans h.t0, (c (z + 1) 1 (by omega) (by omega)).trans h.t1, (c (z + 1) 2 (by omega) (by omega)).trans h.t2, (c (z + 1) 3 (by omega) (by omega)).trans h.t3, h.x.grown hg (by simp), (c (z + 3) 0 (by omega) (by omega)).trans h.y0, (c (z + 3) 1 (by omega) (by omega)).trans h.y1, (c (z + 3) 2 (by omega) (by omega)).trans h.y2, (c (z + 3) 3 (by omega) (by omega)).trans h.y3, fun o => (f (z + 1) o (by omega) (by omega)).trans (h.tf o), fun o => (f (z + 3) o (by omega) (by omega)).trans (h.yf o)⟩
theorem wT_cells {w : World} {z : Nat} {u0 u1 u2 u3 : Value} (h0 : w.cell? ⟨z, 0, none⟩ = some u0) (h1 : w.cell? ⟨z, 1, none⟩ = some u1) (h2 : w.cell? ⟨z, 2, none⟩ = some u2) (h3 : w.cell? ⟨z, 3, none⟩ = some u3) (tv : Value) (D s : Int) :
    (wT w z tv D s).cell? ⟨z, 0, none⟩ = some tv ∧ (wT w z tv D s).cell? ⟨z, 1, none⟩ = some (.int .i64 D) ∧ (wT w z tv D s).cell? ⟨z, 2, none⟩ = some (.int .i64 s) ∧ (wT w z tv D s).cell? ⟨z, 3, none⟩ = some (.int .i64 100000) ∧ ∀ o, (wT w z tv D s).frozen? ⟨z, o, none⟩ = w.frozen? ⟨z, o, none⟩ := by
  have hn : ∀ (W : World) (x : Value) (i j : Nat), i ≠ j → (W.setCell ⟨z, i, none⟩ x).cell? ⟨z, j, none⟩ = W.cell? ⟨z, j, none⟩ := fun W x i j hij => World.cell?_setCell_other _ _ _ _ (by first | (simp; done) | (simp; omega))
  unfold wT
  refine ⟨?_, ?_, ?_, ?_, fun o => ?_⟩
  · rw [hn _ _ 3 0 (by decide), hn _ _ 2 0 (by decide), hn _ _ 1 0 (by decide), World.cell?_setCell_same _ _ _ h0]
  · rw [hn _ _ 3 1 (by decide), hn _ _ 2 1 (by decide), World.cell?_setCell_same _ _ _ (u := u1) (by rw [hn _ _ 0 1 (by decide)]; exact h1)]
  · rw [hn _ _ 3 2 (by decide), World.cell?_setCell_same _ _ _ (u := u2) (by rw [hn _ _ 1 2 (by decide), hn _ _ 0 2 (by decide)]; exact h2)]
  · rw [World.cell?_setCell_same _ _ _ (u := u3) (by rw [hn _ _ 2 3 (by decide), hn _ _ 1 3 (by decide), hn _ _ 0 3 (by decide)]; exact h3)]
  · simp only [World.frozen?_setCell]
theorem SM.setT {z : Nat} {w : World} {v : Value} {i cl : Int} {tv : Value} {D s : Int} (h : SM z w v i cl tv D s) (tv' : Value) : SM z (wT w (z + 1) tv' D s) v i cl tv' D s := by
  have hl := h.lt
  have hg := wT_grown w (z + 1) tv' D s
  obtain ⟨a0, a1, a2, a3, af⟩ := wT_cells h.t0 h.t1 h.t2 h.t3 tv' D s
  have c : ∀ b o, b < w.heap.size → b ≠ z + 1 → (wT w (z + 1) tv' D s).cell? ⟨b, o, none⟩ = w.cell? ⟨b, o, none⟩ := fun b o hb hne => grown_cell hg hb hne o
  have f : ∀ b o, b < w.heap.size → b ≠ z + 1 → (wT w (z + 1) tv' D s).frozen? ⟨b, o, none⟩ = w.frozen? ⟨b, o, none⟩ := fun b o hb hne => grown_frozen hg hb hne o
  exact ⟨h.r.grown hg (by simp), a0, a1, a2, a3, h.x.grown hg (by simp), (c (z + 3) 0 (by omega) (by omega)).trans h.y0, (c (z + 3) 1 (by omega) (by omega)).trans h.y1, (c (z + 3) 2 (by omega) (by omega)).trans h.y2, (c (z + 3) 3 (by omega) (by omega)).trans h.y3, fun o => (af o).trans (h.tf o), fun o => (f (z + 3) o (by omega) (by omega)).trans (h.yf o)⟩
/-- What a function of the model's that reads and tells answers. -/
def ToldPost (v : Value) (D s : Int) (B : Nat) (a0 : Option Addr) (Rel : RR → List Int → Prop) (e : Ending) (w w' : World) : Prop :=
  ∃ (i : Nat) (cl : Int) (a : Option Addr) (c : Nat) (all : List Int), e = .returned (.tuple #[.agg #[v, .int .i64 (i : Nat), .int .i64 cl], .agg #[.slice a all.length c, .int .i64 D, .int .i64 s, .int .i64 100000]]) ∧ OwnsB 5 B w' a c all ∧ w.grownBy w' (blk a0) ∧ (∀ g, blk a = some g → blk a0 = some g ∨ w.heap.size ≤ g) ∧ Rel (i, cl) all
/-- What stands while such a function runs. -/
structure SI (w : World) (a0 : Option Addr) (B : Nat) (wr : World) (v : Value) (i cl : Int) (a : Option Addr) (c : Nat) (all : List Int) (D s : Int) : Prop where
  sm : SM w.heap.size wr v i cl (.slice a all.length c) D s
  own : OwnsB 5 B wr a c all
  gr : w.grownBy wr (blk a0)
  far : ∀ g, blk a = some g → blk a0 = some g ∨ w.heap.size + 4 ≤ g
  low : ∀ g, blk a0 = some g → g < w.heap.size
theorem SI.out {w : World} {a0 : Option Addr} {B : Nat} {wr : World} {v : Value} {i cl : Int} {a : Option Addr} {c : Nat} {all : List Int} {D s : Int} (h : SI w a0 B wr v i cl a c all D s) : ∀ k, blk a = some k → k < w.heap.size ∨ w.heap.size + 4 ≤ k := fun k e => by
  rcases h.far k e with h1 | h1
  · exact .inl (h.low k h1)
  · exact .inr h1
theorem si_new (w : World) (a0 : Option Addr) (B : Nat) (v : Value) (i cl : Int) (c : Nat) (all : List Int) (D s : Int) (tr tt : TypeId) (ho : OwnsB 5 B w a0 c all) : SI w a0 B (w4 w v i cl (.slice a0 all.length c) D s tr tt) v i cl a0 c all D s :=
  ⟨sm_new _ _ _ _ _ _ _ _ _, ho.below (w4_below _ _ _ _ _ _ _ _ _), grownBy_of_below (w4_below _ _ _ _ _ _ _ _ _) _, fun g e => .inl e, ho.lower2⟩
theorem SI.below {w : World} {a0 : Option Addr} {B : Nat} {wr w' : World} {v : Value} {i cl : Int} {a : Option Addr} {c : Nat} {all : List Int} {D s : Int} (h : SI w a0 B wr v i cl a c all D s) (hb : Below wr.heap.size wr w') : SI w a0 B w' v i cl a c all D s :=
  ⟨h.sm.below hb, h.own.below hb, grownBy_row h.gr (grownBy_of_below hb none) (fun g e => by cases e), h.far, h.low⟩
theorem SI.setR {w : World} {a0 : Option Addr} {B : Nat} {wr : World} {v : Value} {i cl : Int} {a : Option Addr} {c : Nat} {all : List Int} {D s : Int} (h : SI w a0 B wr v i cl a c all D s) (v' : Value) (i' cl' : Int) : SI w a0 B (wR wr w.heap.size v' i' cl') v' i' cl' a c all D s :=
  ⟨h.sm.setR v' i' cl', h.own.grown (wR_grown _ _ _ _ _) (fun k e e2 => by simp at e; have := h.out k e2; omega), grownBy_row h.gr (wR_grown _ _ _ _ _) (fun g e => by simp at e; exact .inr (by omega)), h.far, h.low⟩
theorem SI.told {w : World} {a0 : Option Addr} {B : Nat} {wr w' : World} {v : Value} {i cl : Int} {a : Option Addr} {c : Nat} {all : List Int} {D s : Int} (h : SI w a0 B wr v i cl a c all D s) {a' : Option Addr} {c' : Nat} {all' : List Int} (ho : OwnsB 5 B w' a' c' all') (hg : wr.grownBy w' (blk a)) (hf : ∀ g, blk a' = some g → blk a = some g ∨ wr.heap.size ≤ g) (v' : Value) (i' cl' : Int) :
    SI w a0 B (wT (wR w' w.heap.size v' i' cl') (w.heap.size + 1) (.slice a' all'.length c') D s) v' i' cl' a' c' all' D s := by
  have hl := h.sm.lt
  have hsm := h.sm.grown hg (fun k e => h.out k e)
  have hfar : ∀ g, blk a' = some g → blk a0 = some g ∨ w.heap.size + 4 ≤ g := fun g e => by
    rcases hf g e with h1 | h1
    · exact h.far g h1
    · exact .inr (by omega)
  have hout : ∀ k, blk a' = some k → k < w.heap.size ∨ w.heap.size + 4 ≤ k := fun k e => by
    rcases hfar k e with h1 | h1
    · exact .inl (h.low k h1)
    · exact .inr h1
  have hgr : w.grownBy w' (blk a0) := grownBy_row h.gr hg (fun g e => by
    rcases h.far g e with h1 | h1
    · exact .inl h1
    · exact .inr (by omega))
  refine ⟨(hsm.setR v' i' cl').setT _, (ho.grown (wR_grown _ _ _ _ _) (fun k e e2 => by simp at e; have := hout k e2; omega)).grown (wT_grown _ _ _ _ _) (fun k e e2 => by simp at e; have := hout k e2; omega), ?_, hfar, h.low⟩
  exact grownBy_row (grownBy_row hgr (wR_grown _ _ _ _ _) (fun g e => by simp at e; exact .inr (by omega))) (wT_grown _ _ _ _ _) (fun g e => by simp at e; exact .inr (by omega))
/-- The answers are written, in either order. -/
theorem SI.done {w : World} {a0 : Option Addr} {B : Nat} {wr : World} {v : Value} {i cl : Int} {a : Option Addr} {c : Nat} {all : List Int} {D s : Int} (h : SI w a0 B wr v i cl a c all D s) (W : World) (hW : W = wT (wR wr (w.heap.size + 2) v i cl) (w.heap.size + 3) (.slice a all.length c) D s ∨ W = wR (wT wr (w.heap.size + 3) (.slice a all.length c) D s) (w.heap.size + 2) v i cl) :
    (W.cell? ⟨w.heap.size + 2, 0, none⟩ = some v ∧ W.cell? ⟨w.heap.size + 2, 1, none⟩ = some (.int .i64 i) ∧ W.cell? ⟨w.heap.size + 2, 2, none⟩ = some (.int .i64 cl) ∧ W.cell? ⟨w.heap.size + 3, 0, none⟩ = some (.slice a all.length c) ∧ W.cell? ⟨w.heap.size + 3, 1, none⟩ = some (.int .i64 D) ∧ W.cell? ⟨w.heap.size + 3, 2, none⟩ = some (.int .i64 s) ∧ W.cell? ⟨w.heap.size + 3, 3, none⟩ = some (.int .i64 100000)) ∧ OwnsB 5 B W a c all ∧ w.grownBy W (blk a0) ∧ (∀ g, blk a = some g → blk a0 = some g ∨ w.heap.size ≤ g) := by
  have hl := h.sm.lt
  have hfar : ∀ g, blk a = some g → blk a0 = some g ∨ w.heap.size ≤ g := fun g e => by
    rcases h.far g e with h1 | h1
    · exact .inl h1
    · exact .inr (by omega)
  rcases hW with rfl | rfl
  · have hx := h.sm.x.set v i cl
    have g1 := wR_grown wr (w.heap.size + 2) v i cl
    have g2 := wT_grown (wR wr (w.heap.size + 2) v i cl) (w.heap.size + 3) (.slice a all.length c) D s
    have hz : (w.heap.size + 2) < (wR wr (w.heap.size + 2) v i cl).heap.size := Nat.lt_of_lt_of_le (by omega) g1.size
    obtain ⟨k0, k1, k2, _⟩ := hx.1
    have c3 : ∀ o, (wR wr (w.heap.size + 2) v i cl).cell? ⟨w.heap.size + 3, o, none⟩ = wr.cell? ⟨w.heap.size + 3, o, none⟩ := fun o => grown_cell g1 (by omega) (by omega) o
    obtain ⟨a0', a1, a2, a3, _⟩ := wT_cells ((c3 0).trans h.sm.y0) ((c3 1).trans h.sm.y1) ((c3 2).trans h.sm.y2) ((c3 3).trans h.sm.y3) (.slice a all.length c) D s
    refine ⟨⟨(grown_cell g2 hz (by omega) 0).trans k0, (grown_cell g2 hz (by omega) 1).trans k1, (grown_cell g2 hz (by omega) 2).trans k2, a0', a1, a2, a3⟩, ?_, ?_, hfar⟩
    · exact (h.own.grown g1 (fun k e e2 => by simp at e; have := h.out k e2; omega)).grown g2 (fun k e e2 => by simp at e; have := h.out k e2; omega)
    · exact grownBy_row (grownBy_row h.gr g1 (fun g e => by simp at e; exact .inr (by omega))) g2 (fun g e => by simp at e; exact .inr (by omega))
  · have g1 := wT_grown wr (w.heap.size + 3) (.slice a all.length c) D s
    have g2 := wR_grown (wT wr (w.heap.size + 3) (.slice a all.length c) D s) (w.heap.size + 2) v i cl
    have hz : (w.heap.size + 3) < (wT wr (w.heap.size + 3) (.slice a all.length c) D s).heap.size := Nat.lt_of_lt_of_le (by omega) g1.size
    obtain ⟨a0', a1, a2, a3, _⟩ := wT_cells h.sm.y0 h.sm.y1 h.sm.y2 h.sm.y3 (.slice a all.length c) D s
    obtain ⟨k0, k1, k2, _⟩ := ((h.sm.x.grown g1 (by simp)).set v i cl).1
    refine ⟨⟨k0, k1, k2, (grown_cell g2 hz (by omega) 0).trans a0', (grown_cell g2 hz (by omega) 1).trans a1, (grown_cell g2 hz (by omega) 2).trans a2, (grown_cell g2 hz (by omega) 3).trans a3⟩, ?_, ?_, hfar⟩
    · exact (h.own.grown g1 (fun k e e2 => by simp at e; have := h.out k e2; omega)).grown g2 (fun k e e2 => by simp at e; have := h.out k e2; omega)
    · exact grownBy_row (grownBy_row h.gr g1 (fun g e => by simp at e; exact .inr (by omega))) g2 (fun g e => by simp at e; exact .inr (by omega))
end Go.Proofs.YtlfabilmilkboaaGreatDoor
