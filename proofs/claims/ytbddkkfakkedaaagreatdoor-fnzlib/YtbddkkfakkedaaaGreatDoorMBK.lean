import Derived.Test.YtbddkkfakkedaaaGreatDoorMAC
import Derived.Test.YtbddkkfakkedaaaGreatDoorMAF
import Derived.Test.YtbddkkfakkedaaaGreatDoorMAR
import Derived.Test.YtbddkkfakkedaaaGreatDoorMBG
namespace Go.Proofs.YtbddkkfakkedaaaGreatDoor
open Go.RowKit
variable {KH : Nat → Option Obj}
attribute [local go_sem ↓] Go.wp_at_zero Go.wp_at_succ
set_option linter.unusedVariables false

/-- Where an inflater stands: its state's number (0 to 5 those of the lengths, 6 dynamicCodes, 7 blockHead, 8 blockEnd, 9 storedHead, 10 storedBytes, 11 fixedCodes, 12 literal, 13 copyLength, 14 distance, 15 copyDistance, 16 behind the end), the machine for lengths, the window, what was told, and its numbers. -/
structure IC where
  st : Nat
  lc : LC
  t : List Int
  out : List Int
  last : Bool
  stored : Nat
  fx : Bool
  ul : List Int
  ud : List Int
  base : Nat
  extra : Nat
  len : Nat
def ifn (s : Nat) : Nat := if s ≤ 5 then lfn s else if s = 6 then 84 else if s = 7 then 83 else if s = 8 then 158 else if s = 9 then 124 else if s = 10 then 152 else if s = 11 then 125 else if s = 12 then 129 else if s = 13 then 160 else if s = 14 then 171 else 179
/-- The next state as a value. -/
def inow (q : Nat) (aft : Value) (s : Nat) : Value := if s ≤ 15 then .func (Fn.func (ifn s)) #[.pointer (some ⟨q, 0, none⟩)] #[] else aft
/-- The two tables of a block's codes, in the blocks from lo up to hi. -/
structure BC (w : World) (u lo hi : Nat) (ls ds : List Int) : Prop where
  ge : lo ≤ u
  lt : u < hi
  le : hi ≤ w.heap.size
  tabs : ∃ w0 tl Sl ml Ll td Sd md Ld, w0.heap.size = hi ∧ (∀ k, lo ≤ k → k < hi → w.heap[k]? = w0.heap[k]?) ∧ w0.cell? ⟨u, 0, none⟩ = some (.pointer (some ⟨tl, 0, none⟩)) ∧ w0.cell? ⟨u, 1, none⟩ = some (.pointer (some ⟨td, 0, none⟩)) ∧ lo ≤ tl ∧ lo ≤ td ∧ TabOf ls w0 tl Sl ml Ll ∧ TabOf ds w0 td Sd md Ld
theorem BC.keep {w w' : World} {u lo hi : Nat} {ls ds : List Int} (h : BC w u lo hi ls ds) (hk : ∀ k, lo ≤ k → k < hi → w'.heap[k]? = w.heap[k]?) (hs : w.heap.size ≤ w'.heap.size) : BC w' u lo hi ls ds := by
  obtain ⟨w0, tl, Sl, ml, Ll, td, Sd, md, Ld, h1, h2, h3⟩ := h.tabs
  exact ⟨h.ge, h.lt, Nat.le_trans h.le hs, w0, tl, Sl, ml, Ll, td, Sd, md, Ld, h1, fun k k1 k2 => (hk k k1 k2).trans (h2 k k1 k2), h3⟩
/-- What the tables are by the memory as it stands. -/
theorem BC.now {w : World} {u lo hi : Nat} {ls ds : List Int} (h : BC w u lo hi ls ds) : ∃ tl Sl ml Ll td Sd md Ld, w.cell? ⟨u, 0, none⟩ = some (.pointer (some ⟨tl, 0, none⟩)) ∧ w.cell? ⟨u, 1, none⟩ = some (.pointer (some ⟨td, 0, none⟩)) ∧ TabOf ls w tl Sl ml Ll ∧ TabOf ds w td Sd md Ld := by
  obtain ⟨w0, tl, Sl, ml, Ll, td, Sd, md, Ld, h1, h2, h3, h4, h5, h6, h7, h8⟩ := h.tabs
  have hb := h2 u h.ge h.lt
  have hs : w0.heap.size ≤ w.heap.size := by rw [h1]; exact h.le
  refine ⟨tl, Sl, ml, Ll, td, Sd, md, Ld, (World.cell?_of_block (w := w0) (a := ⟨u, 0, none⟩) hb).trans h3, (World.cell?_of_block (w := w0) (a := ⟨u, 1, none⟩) hb).trans h4, h7.same (fun k k1 k2 => h2 k (by omega) (by omega)) hs, h8.same (fun k k1 k2 => h2 k (by omega) (by omega)) hs⟩
/-- The fixed lengths. -/
def F32 : List Int := List.replicate 32 5
/-- The inflater's own part of the memory; T: the blocks of the tables. -/
structure IRest (KH : Nat → Option Obj) (q p hB g s B : Nat) (T : Nat → Prop) (aft : Value) (w : World) (c : IC) : Prop where
  ne : g ≠ q ∧ g ≠ p ∧ g ≠ hB ∧ ¬ T g ∧ ¬ T q ∧ ¬ T p ∧ ¬ T hB
  tlt : ∀ k, T k → k < w.heap.size
  s0 : 0 < s ∧ s ≤ 32768
  rg : RingT w g s c.t
  c29 : w.cell? ⟨q, 29, none⟩ = some (.pointer (some ⟨g, 0, none⟩))
  o30 : ∃ ao cap, w.cell? ⟨q, 30, none⟩ = some (.slice ao c.out.length cap) ∧ OwnsB 5 B w ao cap c.out ∧ ∀ k, blk ao = some k → ¬ T k ∧ k ≠ g ∧ k ≠ q ∧ k ≠ p ∧ k ≠ hB
  c31 : w.cell? ⟨q, 31, none⟩ = some (.bool c.last)
  c32 : w.cell? ⟨q, 32, none⟩ = some (.int .i64 (c.stored : Nat))
  c33 : (c.fx = false → w.cell? ⟨q, 33, none⟩ = some (.pointer none)) ∧ (c.fx = true → ∃ u lo hi, w.cell? ⟨q, 33, none⟩ = some (.pointer (some ⟨u, 0, none⟩)) ∧ BC w u lo hi F288 F32 ∧ ∀ k, lo ≤ k → k < hi → T k)
  c34 : (∃ old, w.cell? ⟨q, 34, none⟩ = some old) ∧ (12 ≤ c.st → c.st ≤ 15 → ∃ u lo hi, w.cell? ⟨q, 34, none⟩ = some (.pointer (some ⟨u, 0, none⟩)) ∧ BC w u lo hi c.ul c.ud ∧ ∀ k, lo ≤ k → k < hi → T k)
  c35 : w.cell? ⟨q, 35, none⟩ = some (.int .i64 (c.base : Nat))
  c36 : w.cell? ⟨q, 36, none⟩ = some (.int .i64 (c.extra : Nat))
  c37 : w.cell? ⟨q, 37, none⟩ = some (.int .i64 (c.len : Nat))
  c38 : w.cell? ⟨q, 38, none⟩ = some aft
  kz : ∀ k o, KH k = some o → T k ∧ w.heap[k]? = some o
/-- The inflater's memory. -/
structure IMem (KH : Nat → Option Obj) (q p hB g s B : Nat) (zs : List Int) (aft : Value) (w : World) (c : IC) : Prop where
  lm : LMem q p hB zs (inow q aft 6) w c.lc
  ls : (c.st ≤ 6 → c.lc.st = c.st) ∧ (7 ≤ c.st → c.lc.st = 0)
  bs : 3 ≤ B ∧ B ≤ q ∧ B ≤ p ∧ B ≤ g
  ex : ∃ T, IRest KH q p hB g s B T aft w c ∧ ∀ v k, w.cell? ⟨q, 26, none⟩ = some v → v.ownBlock = some k → ¬ T k ∧ k ≠ g ∧ ∀ ao n cap, w.cell? ⟨q, 30, none⟩ = some (.slice ao n cap) → blk ao ≠ some k
theorem RingT.keep {w w' : World} {g s : Nat} {t : List Int} (h : RingT w g s t) (hb : w'.heap[g]? = w.heap[g]?) : RingT w' g s t := by
  obtain ⟨rs, p, c, h1, h2⟩ := h
  exact ⟨rs, p, c, ⟨hb.trans h1.heap, h1.len⟩, h2⟩
theorem OwnsB.keep {e B : Nat} {w w' : World} {ao : Option Addr} {cap : Nat} {zs : List Int} (h : OwnsB e B w ao cap zs) (hb : ∀ k, blk ao = some k → w'.heap[k]? = w.heap[k]?) : OwnsB e B w' ao cap zs := by
  refine ⟨h.1, ?_⟩
  rcases h.2 with h2 | ⟨g, c, cur, h3, h4, h5, h6⟩
  · exact .inl h2
  · refine .inr ⟨g, c, cur, h3, h4, ?_, h6⟩
    rw [hb g ?_]
    · exact h5
    · simp only [Value.slice.injEq] at h3
      rw [h3.1]
      rfl
/-- The own part stays where its blocks and cells stay. -/
theorem IRest.keep {q p hB g s B : Nat} {T : Nat → Prop} {aft : Value} {w w' : World} {c : IC} (h : IRest KH q p hB g s B T aft w c) (hs : w.heap.size ≤ w'.heap.size) (hc : ∀ o, 29 ≤ o → w'.cell? ⟨q, o, none⟩ = w.cell? ⟨q, o, none⟩)
    (ht : ∀ k, T k → w'.heap[k]? = w.heap[k]?) (hg : w'.heap[g]? = w.heap[g]?) (ho : ∀ ao n cap k, w.cell? ⟨q, 30, none⟩ = some (.slice ao n cap) → blk ao = some k → w'.heap[k]? = w.heap[k]?) : IRest KH q p hB g s B T aft w' c := by
  refine ⟨h.ne, fun k hk => Nat.lt_of_lt_of_le (h.tlt k hk) hs, h.s0, h.rg.keep hg, (hc 29 (by omega)).trans h.c29, ?_, (hc 31 (by omega)).trans h.c31, (hc 32 (by omega)).trans h.c32, ⟨fun e => (hc 33 (by omega)).trans (h.c33.1 e), fun e => ?_⟩, ⟨?_, fun e1 e2 => ?_⟩, (hc 35 (by omega)).trans h.c35, (hc 36 (by omega)).trans h.c36, (hc 37 (by omega)).trans h.c37, (hc 38 (by omega)).trans h.c38, fun k o e => ⟨(h.kz k o e).1, (ht k (h.kz k o e).1).trans (h.kz k o e).2⟩⟩
  · obtain ⟨ao, cap, h1, h2, h4⟩ := h.o30
    exact ⟨ao, cap, (hc 30 (by omega)).trans h1, h2.keep (fun k e => ho ao _ cap k h1 e), h4⟩
  · obtain ⟨u, lo, hi, h1, h2, h3⟩ := h.c33.2 e
    exact ⟨u, lo, hi, (hc 33 (by omega)).trans h1, h2.keep (fun k k1 k2 => ht k (h3 k k1 k2)) hs, h3⟩
  · obtain ⟨old, h1⟩ := h.c34.1
    exact ⟨old, (hc 34 (by omega)).trans h1⟩
  · obtain ⟨u, lo, hi, h1, h2, h3⟩ := h.c34.2 e1 e2
    exact ⟨u, lo, hi, (hc 34 (by omega)).trans h1, h2.keep (fun k k1 k2 => ht k (h3 k k1 k2)) hs, h3⟩
theorem IRest.at30 {q p hB g s B : Nat} {T : Nat → Prop} {aft : Value} {w : World} {c : IC} (hr : IRest KH q p hB g s B T aft w c) : ∀ ao n cap k, w.cell? ⟨q, 30, none⟩ = some (.slice ao n cap) → blk ao = some k → k < w.heap.size ∧ ¬ T k ∧ k ≠ g ∧ k ≠ q ∧ k ≠ p ∧ k ≠ hB := by
  intro ao n cap k e1 e2
  obtain ⟨ao', cap', h1, h2, h4⟩ := hr.o30
  rw [h1] at e1
  simp only [Option.some.injEq, Value.slice.injEq] at e1
  obtain ⟨rfl, _, rfl⟩ := e1
  refine ⟨?_, h4 k e2⟩
  rcases h2.2 with ⟨h5, _⟩ | ⟨g', cap'', cur, h5, _, h6, _⟩
  · simp only [Value.slice.injEq] at h5
    rw [h5.1] at e2
    cases e2
  · simp only [Value.slice.injEq] at h5
    rw [h5.1] at e2
    simp [blk] at e2
    subst e2
    exact (Array.getElem?_eq_some_iff.1 h6).1
/-- A step of the machine for lengths. -/
theorem IMem.trod {q p hB g s B : Nat} {zs : List Int} {aft : Value} {w w' : World} {c : IC} {c' : LC} (h : IMem KH q p hB g s B zs aft w c) (hT : Trod q p w w') (hM : LMem q p hB zs (inow q aft 6) w' c') (n : Nat) (hn : n ≤ 6 ∨ 16 ≤ n) (hl : (n ≤ 6 → c'.st = n) ∧ (7 ≤ n → c'.st = 0)) :
    IMem KH q p hB g s B zs aft w' { c with st := n, lc := c' } := by
  obtain ⟨T, hr, h26⟩ := h.ex
  have hg : g < w.heap.size := by obtain ⟨rs, p, c, h1, _⟩ := hr.rg; exact h1.lt
  obtain ⟨g1, g2, g3, g4, g5, g6, g7⟩ := hr.ne
  have hq : q < w.heap.size := h.lm.lt
  have ho30 := hr.at30
  have hkeep : IRest KH q p hB g s B T aft w' c := by
    refine hr.keep hT.size hT.rest ?_ ?_ ?_
    · intro k hk
      exact hT.block k (hr.tlt k hk) (fun e => g5 (e ▸ hk)) (fun e => g6 (e ▸ hk)) (fun v hv e => (h26 v k hv e).1 hk)
    · exact hT.block g hg g1 g2 (fun v hv e => (h26 v g hv e).2.1 rfl)
    · intro ao n cap k e1 e2
      obtain ⟨x1, x2, x3, x4, x5, x6⟩ := ho30 ao n cap k e1 e2
      exact hT.block k x1 x4 x5 (fun v hv e => (h26 v k hv e).2.2 ao n cap e1 e2)
  refine ⟨hM, hl, h.bs, T, ?_, ?_⟩
  · exact { hkeep with c34 := ⟨hkeep.c34.1, fun e1 e2 => by dsimp only at e1 e2; omega⟩ }
  · intro v k hv e
    have h30 := hT.rest 30 (by omega)
    rcases hT.own v k hv e with h1 | ⟨v0, h1, h2⟩
    · refine ⟨fun hk => by have := hr.tlt k hk; omega, by omega, fun ao n cap e1 e2 => ?_⟩
      rw [h30] at e1
      have := (ho30 ao n cap k e1 e2).1
      omega
    · obtain ⟨x1, x2, x3⟩ := h26 v0 k h1 h2
      refine ⟨x1, x2, fun ao n cap e1 => ?_⟩
      rw [h30] at e1
      exact x3 ao n cap e1
end Go.Proofs.YtbddkkfakkedaaaGreatDoor
namespace Go.Proofs.YtbddkkfakkedaaaGreatDoor
open Go.RowKit
variable {KH : Nat → Option Obj}
attribute [local go_sem ↓] Go.wp_at_zero Go.wp_at_succ
set_option linter.unusedVariables false

/-- What lies elsewhere has changed, while no lengths are read. -/
theorem LMem.kept {q p hB : Nat} {zs : List Int} {rdy : Value} {w w' : World} {c : LC} {row : Option Nat} (h : LMem q p hB zs rdy w c) (hst : c.st = 0) (hg : w.grownBy w' row) (hq : some q ≠ row) (hp : some p ≠ row) (hb : some hB ≠ row) (h26 : ∀ v k, w.cell? ⟨q, 26, none⟩ = some v → v.ownBlock = some k → some k ≠ row) (hG : ∀ k, row = some k → 3 ≤ k) : LMem q p hB zs rdy w' c := by
  have hlt := h.lt
  have hblk := hg.block q hlt hq
  have hc : ∀ o, w'.cell? ⟨q, o, none⟩ = w.cell? ⟨q, o, none⟩ := fun o => World.cell?_of_block (w := w) (a := ⟨q, o, none⟩) hblk
  obtain ⟨B, v, b1, b2, b3, b4, b5, b6, b7, b8⟩ := h.own
  refine ⟨h.ne, h.neh, h.two, h.rd.grown hg hp hb, (hc 0).trans h.c0, ?_, (fun k hk => (hc k).trans (h.num k hk)), ?_, (hc 28).trans h.c28, ?_, ?_, ?_, ?_⟩
  · obtain ⟨old, ho⟩ := h.c1
    exact ⟨old, (hc 1).trans ho⟩
  · obtain ⟨old, ho⟩ := h.c25
    exact ⟨old, (hc 25).trans ho⟩
  · intro k
    rw [World.frozen?_of_block (w := w) (a := ⟨q, k, none⟩) hblk]
    exact h.free k
  · refine ⟨B, v, b1, b2, b3, Nat.le_trans b4 hg.size, (hc 26).trans b5, ?_, b7, fun h4 => by omega⟩
    refine b6.kept hg ?_
    obtain ⟨_, hx⟩ := b6
    rcases hx with ⟨rfl, _⟩ | ⟨g, cap, cur, rfl, hb, _⟩
    · exact .inl rfl
    · exact .inr (fun e => h26 _ g b5 rfl (by rw [← e]; rfl))
  · exact hg.cell h.g0 (fun e => by have h1 : 3 ≤ 1 := hG _ e.symm; omega)
  · exact fun k hk => hg.cell (h.g1 k hk) (fun e => by have h1 : 3 ≤ 2 := hG _ e.symm; omega)
/-- A cell of the inflater's own has been laid. -/
theorem LMem.set29 {q p hB : Nat} {zs : List Int} {rdy : Value} {w : World} {c : LC} (h : LMem q p hB zs rdy w c) (o' : Nat) (ho' : 29 ≤ o') (v : Value) : LMem q p hB zs rdy (w.setCell ⟨q, o', none⟩ v) c := by
  have hq := h.lt
  have hc : ∀ o, o < 29 → (w.setCell ⟨q, o', none⟩ v).cell? ⟨q, o, none⟩ = w.cell? ⟨q, o, none⟩ := fun o ho => World.cell?_setCell_other _ _ _ _ (by first | (simp; done) | (simp; omega))
  have hg := grownBy_setCell w ⟨q, o', none⟩ v
  obtain ⟨B, u, b1, b2, b3, b4, b5, b6, b7, b8⟩ := h.own
  refine ⟨h.ne, h.neh, h.two, h.rd.grown hg (by simp; exact Ne.symm h.ne) (by simp; exact h.neh), (hc 0 (by omega)).trans h.c0, ?_, ?_, ?_, (hc 28 (by omega)).trans h.c28, ?_, ?_, ?_, ?_⟩
  · obtain ⟨old, ho⟩ := h.c1
    exact ⟨old, (hc 1 (by omega)).trans ho⟩
  · intro j hj
    rw [hc j (by unfold isNum at hj; omega)]
    exact h.num j hj
  · obtain ⟨old, ho⟩ := h.c25
    exact ⟨old, (hc 25 (by omega)).trans ho⟩
  · intro j
    rw [World.frozen?_setCell]
    exact h.free j
  · refine ⟨B, u, b1, b2, b3, Nat.le_trans b4 hg.size, (hc 26 (by omega)).trans b5, ?_, b7, ?_⟩
    · refine b6.kept hg ?_
      obtain ⟨_, hx⟩ := b6
      rcases hx with ⟨rfl, _⟩ | ⟨g, cap, cur, rfl, hb, _⟩
      · exact .inl rfl
      · refine .inr ?_
        simp [Value.ownBlock]
        omega
    · intro hs
      obtain ⟨t, S, m, L, w0, h1, h2, h3, h4, h5, h6⟩ := b8 hs
      refine ⟨t, S, m, L, w0, (hc 25 (by omega)).trans h1, h2, h3, h4, h5, fun j k1 k2 => ?_⟩
      rw [← h6 j k1 k2]
      exact hg.block j (by omega) (by simp; omega)
  · exact hg.cell h.g0 (by simp; have := h.two; omega)
  · exact fun k hk => hg.cell (h.g1 k hk) (by simp; have := h.two; omega)
/-- The source has gone on. -/
theorem IMem.went {q p hB g s B : Nat} {zs : List Int} {aft : Value} {w w' : World} {c : IC} {i' : Nat} (h : IMem KH q p hB g s B zs aft w c) (hr : Rd w' p hB zs i') (hg : w.grownBy w' (some p)) : IMem KH q p hB g s B zs aft w' { c with lc := { c.lc with i := i' } } := by
  obtain ⟨T, hR, h26⟩ := h.ex
  obtain ⟨g1, g2, g3, g4, g5, g6, g7⟩ := hR.ne
  have hq := h.lm.lt
  have hc : ∀ o, w'.cell? ⟨q, o, none⟩ = w.cell? ⟨q, o, none⟩ := fun o => cellFar hg hq h.lm.ne o
  have hgl : g < w.heap.size := by obtain ⟨rs, p, c, h1, _⟩ := hR.rg; exact h1.lt
  refine ⟨h.lm.went hr hg, h.ls, h.bs, T, ?_, ?_⟩
  · have hk := hR.keep hg.size (fun o _ => hc o) (fun k hk => hg.block k (hR.tlt k hk) (fun e => g6 (by cases e; exact hk))) (hg.block g hgl (fun e => g2 (by cases e; rfl))) (fun ao n cap k e1 e2 => by
      obtain ⟨x1, x2, x3, x4, x5, x6⟩ := hR.at30 ao n cap k e1 e2
      exact hg.block k x1 (fun e => x5 (by cases e; rfl)))
    exact { hk with }
  · intro v k e1 e2
    rw [hc 26] at e1
    rw [hc 30]
    exact h26 v k e1 e2
theorem IMem.below {q p hB g s B : Nat} {zs : List Int} {aft : Value} {w w' : World} {c : IC} (h : IMem KH q p hB g s B zs aft w c) (hb : Below w.heap.size w w') : IMem KH q p hB g s B zs aft w' c := h.went (h.lm.rd.below hb) (grownBy_of_below hb (some p))
/-- One of the inflater's numbers has been laid. -/
theorem IMem.setq {q p hB g s B : Nat} {zs : List Int} {aft : Value} {w : World} {c : IC} (h : IMem KH q p hB g s B zs aft w c) (o : Nat) (ho : o = 31 ∨ o = 32 ∨ o = 35 ∨ o = 36 ∨ o = 37) (v : Value) (la : Bool) (sto ba ex le : Nat)
    (h31 : (if o = 31 then v else .bool c.last) = .bool la) (h32 : (if o = 32 then v else .int .i64 (c.stored : Nat)) = .int .i64 (sto : Nat)) (h35 : (if o = 35 then v else .int .i64 (c.base : Nat)) = .int .i64 (ba : Nat)) (h36 : (if o = 36 then v else .int .i64 (c.extra : Nat)) = .int .i64 (ex : Nat)) (h37 : (if o = 37 then v else .int .i64 (c.len : Nat)) = .int .i64 (le : Nat)) :
    IMem KH q p hB g s B zs aft (w.setCell ⟨q, o, none⟩ v) { c with last := la, stored := sto, base := ba, extra := ex, len := le } := by
  obtain ⟨T, hR, h26⟩ := h.ex
  obtain ⟨g1, g2, g3, g4, g5, g6, g7⟩ := hR.ne
  have hq := h.lm.lt
  have hg := grownBy_setCell w ⟨q, o, none⟩ v
  have hc : ∀ j, j ≠ o → (w.setCell ⟨q, o, none⟩ v).cell? ⟨q, j, none⟩ = w.cell? ⟨q, j, none⟩ := fun j hj => World.cell?_setCell_other _ _ _ _ (by first | (simp; done) | (simp; omega))
  have hgl : g < w.heap.size := by obtain ⟨rs, p, c, h1, _⟩ := hR.rg; exact h1.lt
  have hb : ∀ k, k < w.heap.size → k ≠ q → (w.setCell ⟨q, o, none⟩ v).heap[k]? = w.heap[k]? := fun k hk hne => hg.block k hk (by simp; exact hne)
  have hat : ∀ j (x y : Value), w.cell? ⟨q, j, none⟩ = some x → (if o = j then v else x) = y → (w.setCell ⟨q, o, none⟩ v).cell? ⟨q, j, none⟩ = some y := by
    intro j x y h1 h2
    by_cases e : o = j
    · subst e
      rw [if_pos rfl] at h2
      rw [World.cell?_setCell_same _ _ _ h1, h2]
    · rw [if_neg e] at h2
      rw [hc j (Ne.symm e), h1, h2]
  refine ⟨h.lm.set29 o (by omega) v, h.ls, h.bs, T, ?_, ?_⟩
  · refine ⟨hR.ne, fun k hk => Nat.lt_of_lt_of_le (hR.tlt k hk) hg.size, hR.s0, hR.rg.keep (hb g hgl g1), (hc 29 (by omega)).trans hR.c29, ?_, hat 31 _ _ hR.c31 h31, hat 32 _ _ hR.c32 h32, ⟨fun e => (hc 33 (by omega)).trans (hR.c33.1 e), fun e => ?_⟩, ⟨?_, fun e1 e2 => ?_⟩, hat 35 _ _ hR.c35 h35, hat 36 _ _ hR.c36 h36, hat 37 _ _ hR.c37 h37, (hc 38 (by omega)).trans hR.c38, fun k o' e => ⟨(hR.kz k o' e).1, (hb k (hR.tlt k (hR.kz k o' e).1) (fun e2 => g5 (e2 ▸ (hR.kz k o' e).1))).trans (hR.kz k o' e).2⟩⟩
    · obtain ⟨ao, cap, h1, h2, h4⟩ := hR.o30
      exact ⟨ao, cap, (hc 30 (by omega)).trans h1, h2.keep (fun k e => hb k (hR.at30 _ _ _ k h1 e).1 (h4 k e).2.2.1), h4⟩
    · obtain ⟨u, lo, hi, h1, h2, h3⟩ := hR.c33.2 e
      exact ⟨u, lo, hi, (hc 33 (by omega)).trans h1, h2.keep (fun k k1 k2 => hb k (hR.tlt k (h3 k k1 k2)) (fun e => g5 (e ▸ h3 k k1 k2))) hg.size, h3⟩
    · obtain ⟨old, h1⟩ := hR.c34.1
      exact ⟨old, (hc 34 (by omega)).trans h1⟩
    · obtain ⟨u, lo, hi, h1, h2, h3⟩ := hR.c34.2 e1 e2
      exact ⟨u, lo, hi, (hc 34 (by omega)).trans h1, h2.keep (fun k k1 k2 => hb k (hR.tlt k (h3 k k1 k2)) (fun e => g5 (e ▸ h3 k k1 k2))) hg.size, h3⟩
  · intro u k e1 e2
    rw [hc 26 (by omega)] at e1
    rw [hc 30 (by omega)]
    exact h26 u k e1 e2
/-- Which state comes next, where no lengths are read and no codes are asked for. -/
theorem IMem.at {q p hB g s B : Nat} {zs : List Int} {aft : Value} {w : World} {c : IC} (h : IMem KH q p hB g s B zs aft w c) (h7 : 7 ≤ c.st) (n : Nat) (hn : 7 ≤ n) (hu : 12 ≤ n → n ≤ 15 → 12 ≤ c.st ∧ c.st ≤ 15) : IMem KH q p hB g s B zs aft w { c with st := n } := by
  obtain ⟨T, hR, h26⟩ := h.ex
  refine ⟨h.lm, ⟨fun e => by dsimp only at e; omega, fun _ => h.ls.2 h7⟩, h.bs, T, ?_, h26⟩
  exact { hR with c34 := ⟨hR.c34.1, fun e1 e2 => hR.c34.2 (hu e1 e2).1 (hu e1 e2).2⟩ }
theorem IMem.at0 {q p hB g s B : Nat} {zs : List Int} {aft : Value} {w : World} {c : IC} (h : IMem KH q p hB g s B zs aft w c) (h7 : 7 ≤ c.st) : IMem KH q p hB g s B zs aft w { c with st := 0 } := by
  obtain ⟨T, hR, h26⟩ := h.ex
  refine ⟨h.lm, ⟨fun _ => h.ls.2 h7, fun e => by dsimp only at e; omega⟩, h.bs, T, ?_, h26⟩
  exact { hR with c34 := ⟨hR.c34.1, fun e1 e2 => by dsimp only at e1; omega⟩ }
/-- What a state of the inflater answers. -/
def IPost (KH : Nat → Option Obj) (q p hB g s B : Nat) (zs : List Int) (aft : Value) (r : IC ⊕ (Int × IC)) (e : Ending) (w w' : World) : Prop :=
  (∀ c', r = .inl c' → e = .returned (.tuple #[inow q aft c'.st, .nilIface]) ∧ IMem KH q p hB g s B zs aft w' c' ∧ Below B w w') ∧ (∀ k cf, r = .inr (k, cf) → ∃ v, e = .returned (.tuple #[v, flt k]) ∧ IMem KH q p hB g s B zs aft w' cf ∧ Below B w w')
theorem IPost.ok {q p hB g s B : Nat} {zs : List Int} {aft : Value} {c' : IC} {w w' : World} {v : Value} (hv : v = inow q aft c'.st) (hM : IMem KH q p hB g s B zs aft w' c') (hT : Below B w w') : IPost KH q p hB g s B zs aft (.inl c') (.returned (.tuple #[v, .nilIface])) w w' := by
  refine ⟨fun c h => ?_, fun k cf h => by cases h⟩
  injection h with h
  subst h
  exact ⟨by rw [hv], hM, hT⟩
theorem IPost.no {q p hB g s B : Nat} {zs : List Int} {aft : Value} {cf : IC} {k : Int} {w w' : World} {v : Value} (hM : IMem KH q p hB g s B zs aft w' cf) (hT : Below B w w') : IPost KH q p hB g s B zs aft (.inr (k, cf)) (.returned (.tuple #[v, flt k])) w w' := by
  refine ⟨(fun c h => by cases h), fun k' cf' h => ?_⟩
  injection h with h
  injection h with h1 h2
  subst h1 h2
  exact ⟨v, rfl, hM, hT⟩
theorem IMem.lt {q p hB g s B : Nat} {zs : List Int} {aft : Value} {w : World} {c : IC} (h : IMem KH q p hB g s B zs aft w c) : q < w.heap.size := h.lm.lt
theorem IMem.bel {q p hB g s B : Nat} {zs : List Int} {aft : Value} {w w' : World} {c : IC} (h : IMem KH q p hB g s B zs aft w c) (hg : w.grownBy w' (some p)) : Below B w w' := (Below.refl _ _).grown hg (by have := h.lt; have := h.bs; omega) (fun k e => by cases e; exact h.bs.2.2.1)
theorem IMem.belq {q p hB g s B : Nat} {zs : List Int} {aft : Value} {w : World} {c : IC} (h : IMem KH q p hB g s B zs aft w c) (o : Nat) (v : Value) : Below B w (w.setCell ⟨q, o, none⟩ v) := (Below.refl _ _).grown (grownBy_setCell w ⟨q, o, none⟩ v) (by have := h.lt; have := h.bs; omega) (fun k e => by simp at e; have := h.bs; omega)
/-- blockEnd. -/
def blockEndS (c : IC) : IC ⊕ (Int × IC) := if c.last = true then .inl { c with st := 16 } else .inl { c with st := 7 }
set_option maxRecDepth 100000 in
theorem blockEnd_any (q p hB g s B : Nat) (zs : List Int) (aft : Value) (c : IC) (w : World) (hM : IMem KH q p hB g s B zs aft w c) (hs : c.st = 8) :
    Calls Tryz.prog 158 #[.pointer (some ⟨q, 0, none⟩)] w fun e w' => IPost KH q p hB g s B zs aft (blockEndS c) e w w' := by
  have hqw := hM.lt
  have HM := hideM hM
  obtain ⟨T, hR, _⟩ := hM.ex
  have c31 := hR.c31
  have c38 := hR.c38
  clear hR hM
  cases hl : c.last with
  | true =>
    rw [hl] at c31
    have HF : Hid (IPost KH q p hB g s B zs aft (blockEndS c) (.returned (.tuple #[aft, .nilIface])) w w) := by
      show IPost _ _ _ _ _ _ _ _ _ _ _ _ _
      unfold blockEndS
      rw [if_pos hl]
      exact IPost.ok rfl (HM.out.at (by omega) 16 (by omega) (fun _ h => by omega)) (Below.refl _ _)
    clear hl
    go_enter Tryz.func158, Tryz.ntmps158
    go_wp2_with fail
    exact bodyPost_ret (v := .tuple #[aft, .nilIface]) (by simp [results, Tryz.results158, go_sem]) rfl HF.out
  | false =>
    rw [hl] at c31
    have HF : Hid (IPost KH q p hB g s B zs aft (blockEndS c) (.returned (.tuple #[.func (Fn.func 83) #[.pointer (some ⟨q, 0, none⟩)] #[], .nilIface])) w w) := by
      show IPost _ _ _ _ _ _ _ _ _ _ _ _ _
      unfold blockEndS
      rw [if_neg (by rw [hl]; decide)]
      exact IPost.ok rfl (HM.out.at (by omega) 7 (by omega) (fun h _ => by omega)) (Below.refl _ _)
    clear hl
    go_enter Tryz.func158, Tryz.ntmps158
    go_wp2_with fail
    exact bodyPost_ret (v := .tuple #[.func (Fn.func 83) #[.pointer (some ⟨q, 0, none⟩)] #[], .nilIface]) (by simp [results, Tryz.results158, go_sem]) rfl HF.out
end Go.Proofs.YtbddkkfakkedaaaGreatDoor
