/-
  A SLICE OF BYTES THAT IS THE CALL's OWN; append OF BYTES THAT LIE ANYWHERE. No program.
-/
import Derived.Test.YtjknaigdlkpiaaaMem
import Derived.Maps.AppendAt
import Derived.Laws.AppendOwnNone
import Derived.RegionTactic
namespace Go.Proofs.Ytjknaigdlkpiaaa
open Go.RowKit

/-- '.slice ao zs.length cap' is a slice over the bytes zs, in a block from B on, which may be written. -/
structure Mine (B : Nat) (w : World) (ao : Option Addr) (cap : Nat) (zs : List Int) : Prop where
  fits : zs.length ≤ cap
  most : cap ≤ maxLen
  row : Row w ao zs
  free : Open w ao zs.length
  lies : ∀ ad, ao = some ad → B ≤ ad.block ∧ ad.block < w.heap.size ∧ ad.spot = none
  bare : ao = none → cap = 0

theorem Mine.of_owns {B e : Nat} {w : World} {v : Value} {n : Nat} {zs : List Int} (h : w.ownsRow B e 1 v n (zs.map (Value.int .u8))) : ∃ ao cap, v = .slice ao zs.length cap ∧ Mine B w ao cap zs := by
  have hl : n = zs.length := by have := h.1; simp at this; omega
  subst hl
  rcases h.2 with ⟨rfl, h0⟩ | ⟨g, cap, cur, rfl, hb, hg, hnc, hcm, _⟩
  · refine ⟨none, 0, by rw [h0], by omega, by unfold maxLen; omega, ?_, ?_, ?_, fun _ => rfl⟩
    · intro i hi; omega
    · intro ad e; cases e
    · intro ad e; cases e
  · refine ⟨_, cap, rfl, hnc, hcm, Row.owned h, Open.owned h _, ?_, fun e => by cases e⟩
    intro ad e
    simp only [Option.some.injEq] at e
    subst e
    refine ⟨hb, ?_, rfl⟩
    rcases Nat.lt_or_ge g w.heap.size with hlt | hge
    · exact hlt
    · rw [Array.getElem?_eq_none hge] at hg; cases hg

theorem Mine.mono {B B' : Nat} {w : World} {ao : Option Addr} {cap : Nat} {zs : List Int} (h : Mine B w ao cap zs) (hB : B' ≤ B) : Mine B' w ao cap zs :=
  { h with lies := fun ad e => ⟨Nat.le_trans hB (h.lies ad e).1, (h.lies ad e).2⟩ }

/-- It stays while other blocks are written and made. -/
theorem Mine.grown {B : Nat} {w w' : World} {row : Option Nat} {ao : Option Addr} {cap : Nat} {zs : List Int} (h : Mine B w ao cap zs) (hg : w.grownBy w' row) (hne : ∀ k, row = some k → blk ao ≠ some k) : Mine B w' ao cap zs := by
  have hn : ∀ ad, ao = some ad → some ad.block ≠ row := by
    intro ad ea er
    exact hne _ er.symm (by rw [ea]; rfl)
  exact { h with row := h.row.grown hg hn, free := h.free.grown h.row hg hn, lies := fun ad e => ⟨(h.lies ad e).1, Nat.lt_of_lt_of_le (h.lies ad e).2.1 hg.size, (h.lies ad e).2.2⟩ }

theorem grownBy_of_below {w w' : World} (h : Below w.heap.size w w') (row : Option Nat) : w.grownBy w' row := ⟨h.os, h.tape, h.output, h.size, fun k hk _ => h.block k hk⟩
theorem below_of_grownBy {w w' : World} (h : w.grownBy w' none) : Below w.heap.size w w' := ⟨h.os, h.tape, h.output, h.size, fun k hk => h.block k hk (by simp)⟩

theorem Mine.below {B : Nat} {w w' : World} {ao : Option Addr} {cap : Nat} {zs : List Int} (h : Mine B w ao cap zs) (hb : Below w.heap.size w w') : Mine B w' ao cap zs :=
  h.grown (grownBy_of_below hb none) (fun _ e => by cases e)
/-- A block below B is none of its own. -/
theorem Mine.far {B : Nat} {w : World} {ao : Option Addr} {cap : Nat} {zs : List Int} (h : Mine B w ao cap zs) {k : Nat} (hk : k < B) : blk ao ≠ some k := by
  intro e
  cases ao with
  | none => cases e
  | some ad =>
    have := (h.lies ad rfl).1
    simp [blk] at e
    omega
theorem Mine.nil_len {B : Nat} {w : World} {ao : Option Addr} {cap : Nat} {zs : List Int} (h : Mine B w ao cap zs) : ao = none → zs.length = 0 ∧ cap = 0 := by
  intro e
  have := h.bare e
  have := h.fits
  omega

/-- The whole row is the call's own, from its block's head on: what append onto it asks. -/
def OwnsB (e B : Nat) (w : World) (ao : Option Addr) (cap : Nat) (zs : List Int) : Prop := w.ownsRow B e 1 (.slice ao zs.length cap) zs.length (zs.map (Value.int .u8))
theorem OwnsB.mine {e B : Nat} {w : World} {ao : Option Addr} {cap : Nat} {zs : List Int} (h : OwnsB e B w ao cap zs) : Mine B w ao cap zs := by
  obtain ⟨ao', cap', e', hm⟩ := Mine.of_owns h
  simp only [Value.slice.injEq, true_and] at e'
  obtain ⟨rfl, rfl⟩ := e'
  exact hm
theorem OwnsB.of {e B : Nat} {w : World} {v : Value} {n : Nat} {zs : List Int} (h : w.ownsRow B e 1 v n (zs.map (Value.int .u8))) : ∃ ao cap, v = .slice ao zs.length cap ∧ OwnsB e B w ao cap zs := by
  obtain ⟨ao, cap, rfl, hm⟩ := Mine.of_owns h
  have hl : n = zs.length := by have := h.1; simp at this; omega
  subst hl
  exact ⟨ao, cap, rfl, h⟩
theorem OwnsB.grown {e B : Nat} {w w' : World} {row : Option Nat} {ao : Option Addr} {cap : Nat} {zs : List Int} (h : OwnsB e B w ao cap zs) (hg : w.grownBy w' row) (hne : ∀ k, row = some k → blk ao ≠ some k) : OwnsB e B w' ao cap zs := by
  refine World.ownsRow.kept h hg ?_
  cases ao with
  | none => exact .inl rfl
  | some ad => exact .inr (fun he => hne _ he.symm rfl)
theorem OwnsB.below {e B : Nat} {w w' : World} {ao : Option Addr} {cap : Nat} {zs : List Int} (h : OwnsB e B w ao cap zs) (hb : Below w.heap.size w w') : OwnsB e B w' ao cap zs :=
  h.grown (grownBy_of_below hb none) (fun _ e => by cases e)
theorem OwnsB.mono {e B B' : Nat} {w : World} {ao : Option Addr} {cap : Nat} {zs : List Int} (h : OwnsB e B w ao cap zs) (hB : B' ≤ B) : OwnsB e B' w ao cap zs := by
  refine ⟨h.1, ?_⟩
  rcases h.2 with h2 | ⟨g, c, cur, h3, h4, h5⟩
  · exact .inl h2
  · exact .inr ⟨g, c, cur, h3, Nat.le_trans hB h4, h5⟩

/-- Bytes that lie anywhere: what append asks of them. -/
theorem Row.news {w : World} {ad : Addr} {zs : List Int} (h : Row w (some ad) zs) : ∀ j u, (zs.map (Value.int .u8))[j]? = some u → w.cell? (ad.add j) = some u := by
  intro j u hu
  have hj : j < zs.length := by
    have := (List.getElem?_eq_some_iff.1 hu).1
    simpa using this
  obtain ⟨b, off, e, hc⟩ := h j hj
  simp only [Option.some.injEq] at e
  subst e
  rw [Addr.add_lit, hc]
  simpa [List.getD, hj] using hu

section
variable {P : Program} (w : World)

/-- 'append(v, x...)': v nil or the call's own, x bytes that lie anywhere, nil too. -/
theorem run_append_row (base : Nat) (t ty e : TypeId) (i : TypeInfo) (z : Value) (bytes : Nat) (ht : P.underlying t = some (.slice e)) (hi : P.info? e = some i) (hz : i.zero = some z)
    (hsize : i.size = 1) (hby : i.bytes = bytes) (hzs : z.cells.size = 1)
    (v : Value) (n : Nat) (xs : List Value) (hown : w.ownsRow base e 1 v n xs) (ao : Option Addr) (c : Nat) (zs : List Int) (hr : Row w ao zs) (hnil : ao = none → zs.length = 0 ∧ c = 0)
    (h63 : n + zs.length ≤ maxLen) (hbytes : (n + zs.length) * bytes ≤ 140737488355328) (hbase : base ≤ w.heap.size) :
    ∃ v' w', (Builtin.append_ #[t, t] ty #[v, .slice ao zs.length c]).run P w = .ok v' w' ∧ w'.ownsRow base e 1 v' (n + zs.length) (xs ++ zs.map (Value.int .u8)) ∧ w.grownBy w' v.ownBlock ∧
      (v'.ownBlock = v.ownBlock ∨ v'.ownBlock = some w.heap.size) := by
  cases ao with
  | none =>
    obtain ⟨h0, rfl⟩ := hnil rfl
    have e0 : zs = [] := List.eq_nil_of_length_eq_zero h0
    subst e0
    refine ⟨v, w, run_append_owned_none (P := P) w base t ty e i 1 ht hi v n xs hown, by simpa using hown, World.grownBy.refl _ _, .inl rfl⟩
  | some ad =>
    obtain ⟨v', w', h1, h2, h3, _, h5⟩ := run_append_own_at (P := P) w base t ty e i z 1 bytes ht hi hz hsize hby hzs (by decide) v n xs hown ad zs.length c (zs.map (Value.int .u8)) (by simp) hr.news (ints_oneCell _ _) h63 hbytes hbase
    exact ⟨v', w', h1, h2, h3, h5⟩

theorem wp_append_row {o : Oper} {a : Act} {K : Act → World → Prop} {Q : Exit → Act → World → Prop} (s x : Operand) (t : TypeId)
    (ho : o.op = .call { callee := .builtin .append, args := #[s, x], argTypes := #[t, t] })
    (base : Nat) (e : TypeId) (i : TypeInfo) (z : Value) (bytes : Nat) (ht : P.underlying t = some (.slice e)) (hi : P.info? e = some i) (hz : i.zero = some z)
    (hsize : i.size = 1) (hby : i.bytes = bytes) (hzs : z.cells.size = 1)
    (v : Value) (n : Nat) (xs : List Value) (hs : a.eval s = v) (hown : w.ownsRow base e 1 v n xs) (ao : Option Addr) (c : Nat) (zs : List Int) (hx : a.eval x = .slice ao zs.length c) (hr : Row w ao zs) (hnil : ao = none → zs.length = 0 ∧ c = 0)
    (h63 : n + zs.length ≤ maxLen) (hbytes : (n + zs.length) * bytes ≤ 140737488355328) (hbase : base ≤ w.heap.size)
    (h : ∀ v' w', w'.ownsRow base e 1 v' (n + zs.length) (xs ++ zs.map (Value.int .u8)) → w.grownBy w' v.ownBlock → (v'.ownBlock = v.ownBlock ∨ v'.ownBlock = some w.heap.size) → K (a.put o.dst v') w') : o.wp P a w K Q := by
  obtain ⟨v', w', hr, h2, h3, h4⟩ := run_append_row (P := P) w base t o.type e i z bytes ht hi hz hsize hby hzs v n xs hown ao c zs hr hnil h63 hbytes hbase
  unfold Oper.wp execOp
  simp only [ho, resolve, invoke, builtin, Sem.run_bind, Sem.run_pure, Result.andThen_ok, List.map_toArray, List.map_cons, List.map_nil, hs, hx, hr]
  exact h v' w' h2 h3 h4

theorem wpList_append_row {ops : Array Oper} {rest : List Oper} {o : Oper} {a : Act} {Q : Exit → Act → World → Prop} (hgd : o.guard = none) (s x : Operand) (t : TypeId)
    (ho : o.op = .call { callee := .builtin .append, args := #[s, x], argTypes := #[t, t] })
    (base : Nat) (e : TypeId) (i : TypeInfo) (z : Value) (bytes : Nat) (ht : P.underlying t = some (.slice e)) (hi : P.info? e = some i) (hz : i.zero = some z)
    (hsize : i.size = 1) (hby : i.bytes = bytes) (hzs : z.cells.size = 1)
    (v : Value) (n : Nat) (xs : List Value) (hs : a.eval s = v) (hown : w.ownsRow base e 1 v n xs) (ao : Option Addr) (c : Nat) (zs : List Int) (hx : a.eval x = .slice ao zs.length c) (hr : Row w ao zs) (hnil : ao = none → zs.length = 0 ∧ c = 0)
    (h63 : n + zs.length ≤ maxLen) (hbytes : (n + zs.length) * bytes ≤ 140737488355328) (hbase : base ≤ w.heap.size)
    (h : ∀ v' w', w'.ownsRow base e 1 v' (n + zs.length) (xs ++ zs.map (Value.int .u8)) → w.grownBy w' v.ownBlock → (v'.ownBlock = v.ownBlock ∨ v'.ownBlock = some w.heap.size) → wpList P ops Q rest (a.put o.dst v') w') : wpList P ops Q (o :: rest) a w :=
  wpList_plain hgd fun _ hK => wp_append_row w s x t ho base e i z bytes ht hi hz hsize hby hzs v n xs hs hown ao c zs hx hr hnil h63 hbytes hbase fun v' w' h2 h3 h4 => hK _ _ (h v' w' h2 h3 h4)

theorem step_append_row {ops : Array Oper} {o : Oper} {a : Act} {K : Act → World → Prop} {Q : Exit → Act → World → Prop} {E : Prop} (hgd : o.guard = none) (s x : Operand) (t : TypeId)
    (ho : o.op = .call { callee := .builtin .append, args := #[s, x], argTypes := #[t, t] })
    (base : Nat) (e : TypeId) (i : TypeInfo) (z : Value) (bytes : Nat) (ht : P.underlying t = some (.slice e)) (hi : P.info? e = some i) (hz : i.zero = some z)
    (hsize : i.size = 1) (hby : i.bytes = bytes) (hzs : z.cells.size = 1)
    (v : Value) (n : Nat) (xs : List Value) (hs : a.eval s = v) (hown : w.ownsRow base e 1 v n xs) (ao : Option Addr) (c : Nat) (zs : List Int) (hx : a.eval x = .slice ao zs.length c) (hr : Row w ao zs) (hnil : ao = none → zs.length = 0 ∧ c = 0)
    (h63 : n + zs.length ≤ maxLen) (hbytes : (n + zs.length) * bytes ≤ 140737488355328) (hbase : base ≤ w.heap.size)
    (h : ∀ v' w', w'.ownsRow base e 1 v' (n + zs.length) (xs ++ zs.map (Value.int .u8)) → w.grownBy w' v.ownBlock → (v'.ownBlock = v.ownBlock ∨ v'.ownBlock = some w.heap.size) → K (a.put o.dst v') w') :
    if Region.wanted o (yielded ops a.tmps) = true then Oper.wp P o a w K Q else E := by
  have hw : Region.wanted o (yielded ops a.tmps) = true := by simp [Region.wanted, hgd]
  rw [if_pos hw]
  exact wp_append_row w s x t ho base e i z bytes ht hi hz hsize hby hzs v n xs hs hown ao c zs hx hr hnil h63 hbytes hbase h

end
end Go.Proofs.Ytjknaigdlkpiaaa
