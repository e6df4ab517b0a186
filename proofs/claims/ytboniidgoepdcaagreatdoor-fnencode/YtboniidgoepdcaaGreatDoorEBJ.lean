import Derived.Test.YtboniidgoepdcaaGreatDoorEAA
import Derived.Test.YtboniidgoepdcaaGreatDoorEAL
import Derived.Test.YtboniidgoepdcaaGreatDoorEBI
namespace Go.Proofs.YtboniidgoepdcaaGreatDoor
open Go.RowKit
attribute [local go_sem ↓] Go.wp_at_zero Go.wp_at_succ

/-- How many bits are left in the byte. -/
def restA (a : Int) : Int := (8 - a) % 8
def cutA (a : Int) : Nat := if a = 0 then 0 else 1

theorem src_alloc {w : World} {p : Nat} {v : Value} {a u : Int} (h : Src w p v a u) (o : Obj) : Src (w.alloc o) p v a u :=
  h.grown (World.grownBy_alloc w o none) (by simp)

set_option maxHeartbeats 3200000 in
/-- (bitReader).align. -/
theorem align_any (p : Nat) (ao : Option Addr) (len cap : Nat) (a u : Int) (w : World) (hs : Src w p (.slice ao len cap) a u) (hv : vld len a u = true) :
    Calls Tryz.prog 45 #[.agg #[.pointer (some ⟨p, 0, none⟩)]] w fun e w' => e = .returned (.tuple #[]) ∧
      Src w' p (.slice (cutAt ao cap (cutA a)) (len - cutA a) (cap - cutA a)) 0 (u + restA a) ∧ w.grownBy w' (some p) := by
  obtain ⟨a0, a7, al, hl, u0, u1, um⟩ := vld_out hv
  have hp : p < w.heap.size := World.block_lt_of_cell? w _ hs.1
  have hne : w.heap.size ≠ p := by omega
  have hs' := hs
  obtain ⟨c0, c1, c2, f0, f1, f2⟩ := hs'
  by_cases hz : a = 0
  · subst hz
    have HB : Hid (hasB len 0 u 0 = true) := decide_eq_true (by omega)
    have HU : Hid (u + restA 0 = u + 0) := rfl
    have HC : Hid (cutA 0 = 0) := rfl
    clear hv al um a0 a7
    have hs2 := src_alloc hs (Obj.cells #[Value.pointer (some ⟨p, 0, none⟩)] 52)
    go_enter Tryz.func45, Tryz.ntmps45
    go_wp2_with fail
    refine (has_any p ao len cap 0 u 0 _ hs2 hl (by omega) (by omega) u0 u1 (by omega) (by omega)).mono ?_
    rintro e w' ⟨rfl, q, rfl⟩
    rw [HB.out]
    go_wp2_with fail
    refine (pass_any p ao len cap 0 u 0 _ (hs2.drewN q) hl (by omega) (by omega) u0 u1 (by omega) (by omega)).mono ?_
    rintro e w' ⟨rfl, h1, h2, h3⟩
    go_wp2_with fail
    go_end0
    refine ⟨rfl, ?_, ?_⟩
    · rw [HU.out, HC.out]; exact h1
    · exact grownBy_trans (grownBy_trans (World.grownBy_alloc w _ _) (grownBy_of_below (below_drewN' _ _ _) _)) h2
  · have hr : (8 - a) % 8 = 8 - a := by omega
    have hr' : -a % 8 = 8 - a := by omega
    have hln : 0 < len := by omega
    have HB : Hid (hasB len a u (8 - a) = true) := decide_eq_true (by omega)
    have HU : Hid (u + restA a = u + (8 - a)) := by show u + restA a = u + (8 - a); unfold restA; rw [hr]
    have HC : Hid (cutA a = 1) := if_neg hz
    have hs2 := src_alloc hs (Obj.cells #[Value.pointer (some ⟨p, 0, none⟩)] 52)
    clear hv al um
    go_enter Tryz.func45, Tryz.ntmps45
    go_wp2_with fail
    refine (has_any p ao len cap a u (8 - a) _ hs2 hl (by omega) (by omega) u0 u1 (by omega) (by omega)).mono ?_
    rintro e w' ⟨rfl, q, rfl⟩
    rw [HB.out]
    go_wp2_with fail
    refine (pass_any p ao len cap a u (8 - a) _ (hs2.drewN q) hl (by omega) (by omega) u0 u1 (by omega) (by omega)).mono ?_
    rintro e w' ⟨rfl, h1, h2, h3⟩
    rw [show (a + (8 - a)) / 8 = 1 by omega, show (a + (8 - a)) % 8 = 0 by omega] at h1
    go_wp2_with fail
    go_end0
    refine ⟨rfl, ?_, ?_⟩
    · rw [HU.out, HC.out]; exact h1
    · exact grownBy_trans (grownBy_trans (World.grownBy_alloc w _ _) (grownBy_of_below (below_drewN' _ _ _) _)) h2
end Go.Proofs.YtboniidgoepdcaaGreatDoor
namespace Go.Proofs.YtboniidgoepdcaaGreatDoor
open Go.RowKit
attribute [local go_sem ↓] Go.wp_at_zero Go.wp_at_succ
set_option linter.unusedVariables false

/-- What lies elsewhere has changed, while no lengths are read. -/
theorem LMem.kept {q p hB : Nat} {zs : List Int} {rdy : Value} {w w' : World} {c : LC} {row : Option Nat} (h : LMem q p hB zs rdy w c) (hst : c.st = 0) (hg : w.grownBy w' row) (hq : some q ≠ row) (hp : some p ≠ row) (hb : some hB ≠ row) (h26 : ∀ v k, w.cell? ⟨q, 26, none⟩ = some v → v.ownBlock = some k → some k ≠ row) (hG : ∀ k, row = some k → 2 ≤ k) : LMem q p hB zs rdy w' c := by
  have hlt := h.lt
  have hblk := hg.block q hlt hq
  have hc : ∀ o, w'.cell? ⟨q, o, none⟩ = w.cell? ⟨q, o, none⟩ := fun o => World.cell?_of_block (w := w) (a := ⟨q, o, none⟩) hblk
  obtain ⟨B, v, b1, b2, b3, b4, b5, b6, b7, b8⟩ := h.own
  refine ⟨h.ne, h.neh, h.two, h.rd.grown hg hp hb, (hc 0).trans h.c0, ?_, (fun k hk => (hc k).trans (h.num k hk)), ?_, (hc 28).trans h.c28, ?_, ?_, ?_, ?_⟩
  · obtain ⟨old, ho⟩ := h.c1
    exact ⟨old, (hc 1).trans ho⟩
  · obtain ⟨old, ho⟩ := h.c25
    exact ⟨old, (hc 25).trans ho⟩
  · intro k
    rw [World.frozen?_of_block (w := w) (a := ⟨q, k, none⟩) hblk]
    exact h.free k
  · refine ⟨B, v, b1, b2, b3, Nat.le_trans b4 hg.size, (hc 26).trans b5, ?_, b7, fun h4 => by omega⟩
    refine b6.kept hg ?_
    obtain ⟨_, hx⟩ := b6
    rcases hx with ⟨rfl, _⟩ | ⟨g, cap, cur, rfl, hb, _⟩
    · exact .inl rfl
    · exact .inr (fun e => h26 _ g b5 rfl (by rw [← e]; rfl))
  · exact hg.cell h.g0 (fun e => by have h1 : 2 ≤ 0 := hG _ e.symm; omega)
  · exact fun k hk => hg.cell (h.g1 k hk) (fun e => by have h1 : 2 ≤ 1 := hG _ e.symm; omega)
/-- A cell of the inflater's own has been laid. -/
theorem LMem.set29 {q p hB : Nat} {zs : List Int} {rdy : Value} {w : World} {c : LC} (h : LMem q p hB zs rdy w c) (o' : Nat) (ho' : 29 ≤ o') (v : Value) : LMem q p hB zs rdy (w.setCell ⟨q, o', none⟩ v) c := by
  have hq := h.lt
  have hc : ∀ o, o < 29 → (w.setCell ⟨q, o', none⟩ v).cell? ⟨q, o, none⟩ = w.cell? ⟨q, o, none⟩ := fun o ho => World.cell?_setCell_other _ _ _ _ (by first | (simp; done) | (simp; omega))
  have hg := grownBy_setCell w ⟨q, o', none⟩ v
  obtain ⟨B, u, b1, b2, b3, b4, b5, b6, b7, b8⟩ := h.own
  refine ⟨h.ne, h.neh, h.two, h.rd.grown hg (by simp; exact Ne.symm h.ne) (by simp; exact h.neh), (hc 0 (by omega)).trans h.c0, ?_, ?_, ?_, (hc 28 (by omega)).trans h.c28, ?_, ?_, ?_, ?_⟩
  · obtain ⟨old, ho⟩ := h.c1
    exact ⟨old, (hc 1 (by omega)).trans ho⟩
  · intro j hj
    rw [hc j (by unfold isNum at hj; omega)]
    exact h.num j hj
  · obtain ⟨old, ho⟩ := h.c25
    exact ⟨old, (hc 25 (by omega)).trans ho⟩
  · intro j
    rw [World.frozen?_setCell]
    exact h.free j
  · refine ⟨B, u, b1, b2, b3, Nat.le_trans b4 hg.size, (hc 26 (by omega)).trans b5, ?_, b7, ?_⟩
    · refine b6.kept hg ?_
      obtain ⟨_, hx⟩ := b6
      rcases hx with ⟨rfl, _⟩ | ⟨g, cap, cur, rfl, hb, _⟩
      · exact .inl rfl
      · refine .inr ?_
        simp [Value.ownBlock]
        omega
    · intro hs
      obtain ⟨t, S, m, L, w0, h1, h2, h3, h4, h5, h6⟩ := b8 hs
      refine ⟨t, S, m, L, w0, (hc 25 (by omega)).trans h1, h2, h3, h4, h5, fun j k1 k2 => ?_⟩
      rw [← h6 j k1 k2]
      exact hg.block j (by omega) (by simp; omega)
  · exact hg.cell h.g0 (by simp; have := h.two; omega)
  · exact fun k hk => hg.cell (h.g1 k hk) (by simp; have := h.two; omega)
/-- The source has gone on. -/
theorem IMem.went {q p hB g s B : Nat} {zs : List Int} {aft : Value} {w w' : World} {c : IC} {i' : Nat} (h : IMem q p hB g s B zs aft w c) (hr : Rd w' p hB zs i') (hg : w.grownBy w' (some p)) : IMem q p hB g s B zs aft w' { c with lc := { c.lc with i := i' } } := by
  obtain ⟨T, hR, h26⟩ := h.ex
  obtain ⟨g1, g2, g3, g4, g5, g6, g7⟩ := hR.ne
  have hq := h.lm.lt
  have hc : ∀ o, w'.cell? ⟨q, o, none⟩ = w.cell? ⟨q, o, none⟩ := fun o => cellFar hg hq h.lm.ne o
  have hgl : g < w.heap.size := by obtain ⟨rs, p, c, h1, _⟩ := hR.rg; exact h1.lt
  refine ⟨h.lm.went hr hg, h.ls, h.bs, T, ?_, ?_⟩
  · have hk := hR.keep hg.size (fun o _ => hc o) (fun k hk => hg.block k (hR.tlt k hk) (fun e => g6 (by cases e; exact hk))) (hg.block g hgl (fun e => g2 (by cases e; rfl))) (fun ao n cap k e1 e2 => by
      obtain ⟨x1, x2, x3, x4, x5, x6⟩ := hR.at30 ao n cap k e1 e2
      exact hg.block k x1 (fun e => x5 (by cases e; rfl)))
    exact { hk with }
  · intro v k e1 e2
    rw [hc 26] at e1
    rw [hc 30]
    exact h26 v k e1 e2
theorem IMem.below {q p hB g s B : Nat} {zs : List Int} {aft : Value} {w w' : World} {c : IC} (h : IMem q p hB g s B zs aft w c) (hb : Below w.heap.size w w') : IMem q p hB g s B zs aft w' c := h.went (h.lm.rd.below hb) (grownBy_of_below hb (some p))
/-- One of the inflater's numbers has been laid. -/
theorem IMem.setq {q p hB g s B : Nat} {zs : List Int} {aft : Value} {w : World} {c : IC} (h : IMem q p hB g s B zs aft w c) (o : Nat) (ho : o = 31 ∨ o = 32 ∨ o = 35 ∨ o = 36 ∨ o = 37) (v : Value) (la : Bool) (sto ba ex le : Nat)
    (h31 : (if o = 31 then v else .bool c.last) = .bool la) (h32 : (if o = 32 then v else .int .i64 (c.stored : Nat)) = .int .i64 (sto : Nat)) (h35 : (if o = 35 then v else .int .i64 (c.base : Nat)) = .int .i64 (ba : Nat)) (h36 : (if o = 36 then v else .int .i64 (c.extra : Nat)) = .int .i64 (ex : Nat)) (h37 : (if o = 37 then v else .int .i64 (c.len : Nat)) = .int .i64 (le : Nat)) :
    IMem q p hB g s B zs aft (w.setCell ⟨q, o, none⟩ v) { c with last := la, stored := sto, base := ba, extra := ex, len := le } := by
  obtain ⟨T, hR, h26⟩ := h.ex
  obtain ⟨g1, g2, g3, g4, g5, g6, g7⟩ := hR.ne
  have hq := h.lm.lt
  have hg := grownBy_setCell w ⟨q, o, none⟩ v
  have hc : ∀ j, j ≠ o → (w.setCell ⟨q, o, none⟩ v).cell? ⟨q, j, none⟩ = w.cell? ⟨q, j, none⟩ := fun j hj => World.cell?_setCell_other _ _ _ _ (by first | (simp; done) | (simp; omega))
  have hgl : g < w.heap.size := by obtain ⟨rs, p, c, h1, _⟩ := hR.rg; exact h1.lt
  have hb : ∀ k, k < w.heap.size → k ≠ q → (w.setCell ⟨q, o, none⟩ v).heap[k]? = w.heap[k]? := fun k hk hne => hg.block k hk (by simp; exact hne)
  have hat : ∀ j (x y : Value), w.cell? ⟨q, j, none⟩ = some x → (if o = j then v else x) = y → (w.setCell ⟨q, o, none⟩ v).cell? ⟨q, j, none⟩ = some y := by
    intro j x y h1 h2
    by_cases e : o = j
    · subst e
      rw [if_pos rfl] at h2
      rw [World.cell?_setCell_same _ _ _ h1, h2]
    · rw [if_neg e] at h2
      rw [hc j (Ne.symm e), h1, h2]
  refine ⟨h.lm.set29 o (by omega) v, h.ls, h.bs, T, ?_, ?_⟩
  · refine ⟨hR.ne, fun k hk => Nat.lt_of_lt_of_le (hR.tlt k hk) hg.size, hR.s0, hR.rg.keep (hb g hgl g1), (hc 29 (by omega)).trans hR.c29, ?_, hat 31 _ _ hR.c31 h31, hat 32 _ _ hR.c32 h32, ⟨fun e => (hc 33 (by omega)).trans (hR.c33.1 e), fun e => ?_⟩, ⟨?_, fun e1 e2 => ?_⟩, hat 35 _ _ hR.c35 h35, hat 36 _ _ hR.c36 h36, hat 37 _ _ hR.c37 h37, (hc 38 (by omega)).trans hR.c38⟩
    · obtain ⟨ao, cap, h1, h2, h4⟩ := hR.o30
      exact ⟨ao, cap, (hc 30 (by omega)).trans h1, h2.keep (fun k e => hb k (hR.at30 _ _ _ k h1 e).1 (h4 k e).2.2.1), h4⟩
    · obtain ⟨u, lo, hi, h1, h2, h3⟩ := hR.c33.2 e
      exact ⟨u, lo, hi, (hc 33 (by omega)).trans h1, h2.keep (fun k k1 k2 => hb k (hR.tlt k (h3 k k1 k2)) (fun e => g5 (e ▸ h3 k k1 k2))) hg.size, h3⟩
    · obtain ⟨old, h1⟩ := hR.c34.1
      exact ⟨old, (hc 34 (by omega)).trans h1⟩
    · obtain ⟨u, lo, hi, h1, h2, h3⟩ := hR.c34.2 e1 e2
      exact ⟨u, lo, hi, (hc 34 (by omega)).trans h1, h2.keep (fun k k1 k2 => hb k (hR.tlt k (h3 k k1 k2)) (fun e => g5 (e ▸ h3 k k1 k2))) hg.size, h3⟩
  · intro u k e1 e2
    rw [hc 26 (by omega)] at e1
    rw [hc 30 (by omega)]
    exact h26 u k e1 e2
/-- Which state comes next, where no lengths are read and no codes are asked for. -/
theorem IMem.at {q p hB g s B : Nat} {zs : List Int} {aft : Value} {w : World} {c : IC} (h : IMem q p hB g s B zs aft w c) (h7 : 7 ≤ c.st) (n : Nat) (hn : 7 ≤ n) (hu : 12 ≤ n → n ≤ 15 → 12 ≤ c.st ∧ c.st ≤ 15) : IMem q p hB g s B zs aft w { c with st := n } := by
  obtain ⟨T, hR, h26⟩ := h.ex
  refine ⟨h.lm, ⟨fun e => by dsimp only at e; omega, fun _ => h.ls.2 h7⟩, h.bs, T, ?_, h26⟩
  exact { hR with c34 := ⟨hR.c34.1, fun e1 e2 => hR.c34.2 (hu e1 e2).1 (hu e1 e2).2⟩ }
theorem IMem.at0 {q p hB g s B : Nat} {zs : List Int} {aft : Value} {w : World} {c : IC} (h : IMem q p hB g s B zs aft w c) (h7 : 7 ≤ c.st) : IMem q p hB g s B zs aft w { c with st := 0 } := by
  obtain ⟨T, hR, h26⟩ := h.ex
  refine ⟨h.lm, ⟨fun _ => h.ls.2 h7, fun e => by dsimp only at e; omega⟩, h.bs, T, ?_, h26⟩
  exact { hR with c34 := ⟨hR.c34.1, fun e1 e2 => by dsimp only at e1; omega⟩ }
/-- What a state of the inflater answers. -/
def IPost (q p hB g s B : Nat) (zs : List Int) (aft : Value) (r : IC ⊕ (Int × IC)) (e : Ending) (w w' : World) : Prop :=
  (∀ c', r = .inl c' → e = .returned (.tuple #[inow q aft c'.st, .nilIface]) ∧ IMem q p hB g s B zs aft w' c' ∧ Below B w w') ∧ (∀ k cf, r = .inr (k, cf) → ∃ v, e = .returned (.tuple #[v, flt k]) ∧ IMem q p hB g s B zs aft w' cf ∧ Below B w w')
theorem IPost.ok {q p hB g s B : Nat} {zs : List Int} {aft : Value} {c' : IC} {w w' : World} {v : Value} (hv : v = inow q aft c'.st) (hM : IMem q p hB g s B zs aft w' c') (hT : Below B w w') : IPost q p hB g s B zs aft (.inl c') (.returned (.tuple #[v, .nilIface])) w w' := by
  refine ⟨fun c h => ?_, fun k cf h => by cases h⟩
  injection h with h
  subst h
  exact ⟨by rw [hv], hM, hT⟩
theorem IPost.no {q p hB g s B : Nat} {zs : List Int} {aft : Value} {cf : IC} {k : Int} {w w' : World} {v : Value} (hM : IMem q p hB g s B zs aft w' cf) (hT : Below B w w') : IPost q p hB g s B zs aft (.inr (k, cf)) (.returned (.tuple #[v, flt k])) w w' := by
  refine ⟨(fun c h => by cases h), fun k' cf' h => ?_⟩
  injection h with h
  injection h with h1 h2
  subst h1 h2
  exact ⟨v, rfl, hM, hT⟩
theorem IMem.lt {q p hB g s B : Nat} {zs : List Int} {aft : Value} {w : World} {c : IC} (h : IMem q p hB g s B zs aft w c) : q < w.heap.size := h.lm.lt
theorem IMem.bel {q p hB g s B : Nat} {zs : List Int} {aft : Value} {w w' : World} {c : IC} (h : IMem q p hB g s B zs aft w c) (hg : w.grownBy w' (some p)) : Below B w w' := (Below.refl _ _).grown hg (by have := h.lt; have := h.bs; omega) (fun k e => by cases e; exact h.bs.2.2.1)
theorem IMem.belq {q p hB g s B : Nat} {zs : List Int} {aft : Value} {w : World} {c : IC} (h : IMem q p hB g s B zs aft w c) (o : Nat) (v : Value) : Below B w (w.setCell ⟨q, o, none⟩ v) := (Below.refl _ _).grown (grownBy_setCell w ⟨q, o, none⟩ v) (by have := h.lt; have := h.bs; omega) (fun k e => by simp at e; have := h.bs; omega)
/-- blockEnd. -/
def blockEndS (c : IC) : IC ⊕ (Int × IC) := if c.last = true then .inl { c with st := 16 } else .inl { c with st := 7 }
set_option maxRecDepth 100000 in
theorem blockEnd_any (q p hB g s B : Nat) (zs : List Int) (aft : Value) (c : IC) (w : World) (hM : IMem q p hB g s B zs aft w c) (hs : c.st = 8) :
    Calls Tryz.prog 68 #[.pointer (some ⟨q, 0, none⟩)] w fun e w' => IPost q p hB g s B zs aft (blockEndS c) e w w' := by
  have hqw := hM.lt
  have HM := hideM hM
  obtain ⟨T, hR, _⟩ := hM.ex
  have c31 := hR.c31
  have c38 := hR.c38
  clear hR hM
  cases hl : c.last with
  | true =>
    rw [hl] at c31
    have HF : Hid (IPost q p hB g s B zs aft (blockEndS c) (.returned (.tuple #[aft, .nilIface])) w w) := by
      show IPost _ _ _ _ _ _ _ _ _ _ _ _
      unfold blockEndS
      rw [if_pos hl]
      exact IPost.ok rfl (HM.out.at (by omega) 16 (by omega) (fun _ h => by omega)) (Below.refl _ _)
    clear hl
    go_enter Tryz.func68, Tryz.ntmps68
    go_wp2_with fail
    exact bodyPost_ret (v := .tuple #[aft, .nilIface]) (by simp [results, Tryz.results68, go_sem]) rfl HF.out
  | false =>
    rw [hl] at c31
    have HF : Hid (IPost q p hB g s B zs aft (blockEndS c) (.returned (.tuple #[.func (Fn.func 31) #[.pointer (some ⟨q, 0, none⟩)] #[], .nilIface])) w w) := by
      show IPost _ _ _ _ _ _ _ _ _ _ _ _
      unfold blockEndS
      rw [if_neg (by rw [hl]; decide)]
      exact IPost.ok rfl (HM.out.at (by omega) 7 (by omega) (fun h _ => by omega)) (Below.refl _ _)
    clear hl
    go_enter Tryz.func68, Tryz.ntmps68
    go_wp2_with fail
    exact bodyPost_ret (v := .tuple #[.func (Fn.func 31) #[.pointer (some ⟨q, 0, none⟩)] #[], .nilIface]) (by simp [results, Tryz.results68, go_sem]) rfl HF.out
end Go.Proofs.YtboniidgoepdcaaGreatDoor
