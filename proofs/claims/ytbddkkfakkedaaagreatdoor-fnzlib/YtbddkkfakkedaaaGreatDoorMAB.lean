import Derived.Maps.AppendAt
import Derived.Laws.AppendOwnNone
import Derived.RegionTactic
import Derived.Deep.QuietTactic
import Derived.Deep.RegionHeld3
import Derived.Deep.DrawnRows
import Derived.Deep.CutRange
import Derived.Laws.BitsAllLaws
import Derived.Test.YtbddkkfakkedaaaGreatDoorMAA
/-
  A SLICE OF BYTES THAT IS THE CALL's OWN; append OF BYTES THAT LIE ANYWHERE. No program.
-/
namespace Go.Proofs.YtbddkkfakkedaaaGreatDoor
open Go.RowKit

/-- '.slice ao zs.length cap' is a slice over the bytes zs, in a block from B on, which may be written. -/
structure Mine (B : Nat) (w : World) (ao : Option Addr) (cap : Nat) (zs : List Int) : Prop where
  fits : zs.length ≤ cap
  most : cap ≤ maxLen
  row : Row w ao zs
  free : Open w ao zs.length
  lies : ∀ ad, ao = some ad → B ≤ ad.block ∧ ad.block < w.heap.size ∧ ad.spot = none
  bare : ao = none → cap = 0

theorem Mine.of_owns {B e : Nat} {w : World} {v : Value} {n : Nat} {zs : List Int} (h : w.ownsRow B e 1 v n (zs.map (Value.int .u8))) : ∃ ao cap, v = .slice ao zs.length cap ∧ Mine B w ao cap zs := by
  have hl : n = zs.length := by have := h.1; simp at this; omega
  subst hl
  rcases h.2 with ⟨rfl, h0⟩ | ⟨g, cap, cur, rfl, hb, hg, hnc, hcm, _⟩
  · refine ⟨none, 0, by rw [h0], by omega, by unfold maxLen; omega, ?_, ?_, ?_, fun _ => rfl⟩
    · intro i hi; omega
    · intro ad e; cases e
    · intro ad e; cases e
  · refine ⟨_, cap, rfl, hnc, hcm, Row.owned h, Open.owned h _, ?_, fun e => by cases e⟩
    intro ad e
    simp only [Option.some.injEq] at e
    subst e
    refine ⟨hb, ?_, rfl⟩
    rcases Nat.lt_or_ge g w.heap.size with hlt | hge
    · exact hlt
    · rw [Array.getElem?_eq_none hge] at hg; cases hg

theorem Mine.mono {B B' : Nat} {w : World} {ao : Option Addr} {cap : Nat} {zs : List Int} (h : Mine B w ao cap zs) (hB : B' ≤ B) : Mine B' w ao cap zs :=
  { h with lies := fun ad e => ⟨Nat.le_trans hB (h.lies ad e).1, (h.lies ad e).2⟩ }

/-- It stays while other blocks are written and made. -/
theorem Mine.grown {B : Nat} {w w' : World} {row : Option Nat} {ao : Option Addr} {cap : Nat} {zs : List Int} (h : Mine B w ao cap zs) (hg : w.grownBy w' row) (hne : ∀ k, row = some k → blk ao ≠ some k) : Mine B w' ao cap zs := by
  have hn : ∀ ad, ao = some ad → some ad.block ≠ row := by
    intro ad ea er
    exact hne _ er.symm (by rw [ea]; rfl)
  exact { h with row := h.row.grown hg hn, free := h.free.grown h.row hg hn, lies := fun ad e => ⟨(h.lies ad e).1, Nat.lt_of_lt_of_le (h.lies ad e).2.1 hg.size, (h.lies ad e).2.2⟩ }

theorem grownBy_of_below {w w' : World} (h : Below w.heap.size w w') (row : Option Nat) : w.grownBy w' row := ⟨h.os, h.tape, h.output, h.size, fun k hk _ => h.block k hk⟩
theorem below_of_grownBy {w w' : World} (h : w.grownBy w' none) : Below w.heap.size w w' := ⟨h.os, h.tape, h.output, h.size, fun k hk => h.block k hk (by simp)⟩

theorem Mine.below {B : Nat} {w w' : World} {ao : Option Addr} {cap : Nat} {zs : List Int} (h : Mine B w ao cap zs) (hb : Below w.heap.size w w') : Mine B w' ao cap zs :=
  h.grown (grownBy_of_below hb none) (fun _ e => by cases e)
/-- A block below B is none of its own. -/
theorem Mine.far {B : Nat} {w : World} {ao : Option Addr} {cap : Nat} {zs : List Int} (h : Mine B w ao cap zs) {k : Nat} (hk : k < B) : blk ao ≠ some k := by
  intro e
  cases ao with
  | none => cases e
  | some ad =>
    have := (h.lies ad rfl).1
    simp [blk] at e
    omega
theorem Mine.nil_len {B : Nat} {w : World} {ao : Option Addr} {cap : Nat} {zs : List Int} (h : Mine B w ao cap zs) : ao = none → zs.length = 0 ∧ cap = 0 := by
  intro e
  have := h.bare e
  have := h.fits
  omega

/-- The whole row is the call's own, from its block's head on: what append onto it asks. -/
def OwnsB (e B : Nat) (w : World) (ao : Option Addr) (cap : Nat) (zs : List Int) : Prop := w.ownsRow B e 1 (.slice ao zs.length cap) zs.length (zs.map (Value.int .u8))
theorem OwnsB.mine {e B : Nat} {w : World} {ao : Option Addr} {cap : Nat} {zs : List Int} (h : OwnsB e B w ao cap zs) : Mine B w ao cap zs := by
  obtain ⟨ao', cap', e', hm⟩ := Mine.of_owns h
  simp only [Value.slice.injEq, true_and] at e'
  obtain ⟨rfl, rfl⟩ := e'
  exact hm
theorem OwnsB.of {e B : Nat} {w : World} {v : Value} {n : Nat} {zs : List Int} (h : w.ownsRow B e 1 v n (zs.map (Value.int .u8))) : ∃ ao cap, v = .slice ao zs.length cap ∧ OwnsB e B w ao cap zs := by
  obtain ⟨ao, cap, rfl, hm⟩ := Mine.of_owns h
  have hl : n = zs.length := by have := h.1; simp at this; omega
  subst hl
  exact ⟨ao, cap, rfl, h⟩
theorem OwnsB.grown {e B : Nat} {w w' : World} {row : Option Nat} {ao : Option Addr} {cap : Nat} {zs : List Int} (h : OwnsB e B w ao cap zs) (hg : w.grownBy w' row) (hne : ∀ k, row = some k → blk ao ≠ some k) : OwnsB e B w' ao cap zs := by
  refine World.ownsRow.kept h hg ?_
  cases ao with
  | none => exact .inl rfl
  | some ad => exact .inr (fun he => hne _ he.symm rfl)
theorem OwnsB.below {e B : Nat} {w w' : World} {ao : Option Addr} {cap : Nat} {zs : List Int} (h : OwnsB e B w ao cap zs) (hb : Below w.heap.size w w') : OwnsB e B w' ao cap zs :=
  h.grown (grownBy_of_below hb none) (fun _ e => by cases e)
theorem OwnsB.mono {e B B' : Nat} {w : World} {ao : Option Addr} {cap : Nat} {zs : List Int} (h : OwnsB e B w ao cap zs) (hB : B' ≤ B) : OwnsB e B' w ao cap zs := by
  refine ⟨h.1, ?_⟩
  rcases h.2 with h2 | ⟨g, c, cur, h3, h4, h5⟩
  · exact .inl h2
  · exact .inr ⟨g, c, cur, h3, Nat.le_trans hB h4, h5⟩

/-- Bytes that lie anywhere: what append asks of them. -/
theorem Row.news {w : World} {ad : Addr} {zs : List Int} (h : Row w (some ad) zs) : ∀ j u, (zs.map (Value.int .u8))[j]? = some u → w.cell? (ad.add j) = some u := by
  intro j u hu
  have hj : j < zs.length := by
    have := (List.getElem?_eq_some_iff.1 hu).1
    simpa using this
  obtain ⟨b, off, e, hc⟩ := h j hj
  simp only [Option.some.injEq] at e
  subst e
  rw [Addr.add_lit, hc]
  simpa [List.getD, hj] using hu

section
variable {P : Program} (w : World)

/-- 'append(v, x...)': v nil or the call's own, x bytes that lie anywhere, nil too. -/
theorem run_append_row (base : Nat) (t ty e : TypeId) (i : TypeInfo) (z : Value) (bytes : Nat) (ht : P.underlying t = some (.slice e)) (hi : P.info? e = some i) (hz : i.zero = some z)
    (hsize : i.size = 1) (hby : i.bytes = bytes) (hzs : z.cells.size = 1)
    (v : Value) (n : Nat) (xs : List Value) (hown : w.ownsRow base e 1 v n xs) (ao : Option Addr) (c : Nat) (zs : List Int) (hr : Row w ao zs) (hnil : ao = none → zs.length = 0 ∧ c = 0)
    (h63 : n + zs.length ≤ maxLen) (hbytes : (n + zs.length) * bytes ≤ 140737488355328) (hbase : base ≤ w.heap.size) :
    ∃ v' w', (Builtin.append_ #[t, t] ty #[v, .slice ao zs.length c]).run P w = .ok v' w' ∧ w'.ownsRow base e 1 v' (n + zs.length) (xs ++ zs.map (Value.int .u8)) ∧ w.grownBy w' v.ownBlock ∧
      (v'.ownBlock = v.ownBlock ∨ v'.ownBlock = some w.heap.size) := by
  cases ao with
  | none =>
    obtain ⟨h0, rfl⟩ := hnil rfl
    have e0 : zs = [] := List.eq_nil_of_length_eq_zero h0
    subst e0
    refine ⟨v, w, run_append_owned_none (P := P) w base t ty e i 1 ht hi v n xs hown, by simpa using hown, World.grownBy.refl _ _, .inl rfl⟩
  | some ad =>
    obtain ⟨v', w', h1, h2, h3, _, h5⟩ := run_append_own_at (P := P) w base t ty e i z 1 bytes ht hi hz hsize hby hzs (by decide) v n xs hown ad zs.length c (zs.map (Value.int .u8)) (by simp) hr.news (ints_oneCell _ _) h63 hbytes hbase
    exact ⟨v', w', h1, h2, h3, h5⟩

theorem wp_append_row {o : Oper} {a : Act} {K : Act → World → Prop} {Q : Exit → Act → World → Prop} (s x : Operand) (t : TypeId)
    (ho : o.op = .call { callee := .builtin .append, args := #[s, x], argTypes := #[t, t] })
    (base : Nat) (e : TypeId) (i : TypeInfo) (z : Value) (bytes : Nat) (ht : P.underlying t = some (.slice e)) (hi : P.info? e = some i) (hz : i.zero = some z)
    (hsize : i.size = 1) (hby : i.bytes = bytes) (hzs : z.cells.size = 1)
    (v : Value) (n : Nat) (xs : List Value) (hs : a.eval s = v) (hown : w.ownsRow base e 1 v n xs) (ao : Option Addr) (c : Nat) (zs : List Int) (hx : a.eval x = .slice ao zs.length c) (hr : Row w ao zs) (hnil : ao = none → zs.length = 0 ∧ c = 0)
    (h63 : n + zs.length ≤ maxLen) (hbytes : (n + zs.length) * bytes ≤ 140737488355328) (hbase : base ≤ w.heap.size)
    (h : ∀ v' w', w'.ownsRow base e 1 v' (n + zs.length) (xs ++ zs.map (Value.int .u8)) → w.grownBy w' v.ownBlock → (v'.ownBlock = v.ownBlock ∨ v'.ownBlock = some w.heap.size) → K (a.put o.dst v') w') : o.wp P a w K Q := by
  obtain ⟨v', w', hr, h2, h3, h4⟩ := run_append_row (P := P) w base t o.type e i z bytes ht hi hz hsize hby hzs v n xs hown ao c zs hr hnil h63 hbytes hbase
  unfold Oper.wp execOp
  simp only [ho, resolve, invoke, builtin, Sem.run_bind, Sem.run_pure, Result.andThen_ok, List.map_toArray, List.map_cons, List.map_nil, hs, hx, hr]
  exact h v' w' h2 h3 h4

theorem wpList_append_row {ops : Array Oper} {rest : List Oper} {o : Oper} {a : Act} {Q : Exit → Act → World → Prop} (hgd : o.guard = none) (s x : Operand) (t : TypeId)
    (ho : o.op = .call { callee := .builtin .append, args := #[s, x], argTypes := #[t, t] })
    (base : Nat) (e : TypeId) (i : TypeInfo) (z : Value) (bytes : Nat) (ht : P.underlying t = some (.slice e)) (hi : P.info? e = some i) (hz : i.zero = some z)
    (hsize : i.size = 1) (hby : i.bytes = bytes) (hzs : z.cells.size = 1)
    (v : Value) (n : Nat) (xs : List Value) (hs : a.eval s = v) (hown : w.ownsRow base e 1 v n xs) (ao : Option Addr) (c : Nat) (zs : List Int) (hx : a.eval x = .slice ao zs.length c) (hr : Row w ao zs) (hnil : ao = none → zs.length = 0 ∧ c = 0)
    (h63 : n + zs.length ≤ maxLen) (hbytes : (n + zs.length) * bytes ≤ 140737488355328) (hbase : base ≤ w.heap.size)
    (h : ∀ v' w', w'.ownsRow base e 1 v' (n + zs.length) (xs ++ zs.map (Value.int .u8)) → w.grownBy w' v.ownBlock → (v'.ownBlock = v.ownBlock ∨ v'.ownBlock = some w.heap.size) → wpList P ops Q rest (a.put o.dst v') w') : wpList P ops Q (o :: rest) a w :=
  wpList_plain hgd fun _ hK => wp_append_row w s x t ho base e i z bytes ht hi hz hsize hby hzs v n xs hs hown ao c zs hx hr hnil h63 hbytes hbase fun v' w' h2 h3 h4 => hK _ _ (h v' w' h2 h3 h4)

theorem step_append_row {ops : Array Oper} {o : Oper} {a : Act} {K : Act → World → Prop} {Q : Exit → Act → World → Prop} {E : Prop} (hgd : o.guard = none) (s x : Operand) (t : TypeId)
    (ho : o.op = .call { callee := .builtin .append, args := #[s, x], argTypes := #[t, t] })
    (base : Nat) (e : TypeId) (i : TypeInfo) (z : Value) (bytes : Nat) (ht : P.underlying t = some (.slice e)) (hi : P.info? e = some i) (hz : i.zero = some z)
    (hsize : i.size = 1) (hby : i.bytes = bytes) (hzs : z.cells.size = 1)
    (v : Value) (n : Nat) (xs : List Value) (hs : a.eval s = v) (hown : w.ownsRow base e 1 v n xs) (ao : Option Addr) (c : Nat) (zs : List Int) (hx : a.eval x = .slice ao zs.length c) (hr : Row w ao zs) (hnil : ao = none → zs.length = 0 ∧ c = 0)
    (h63 : n + zs.length ≤ maxLen) (hbytes : (n + zs.length) * bytes ≤ 140737488355328) (hbase : base ≤ w.heap.size)
    (h : ∀ v' w', w'.ownsRow base e 1 v' (n + zs.length) (xs ++ zs.map (Value.int .u8)) → w.grownBy w' v.ownBlock → (v'.ownBlock = v.ownBlock ∨ v'.ownBlock = some w.heap.size) → K (a.put o.dst v') w') :
    if Region.wanted o (yielded ops a.tmps) = true then Oper.wp P o a w K Q else E := by
  have hw : Region.wanted o (yielded ops a.tmps) = true := by simp [Region.wanted, hgd]
  rw [if_pos hw]
  exact wp_append_row w s x t ho base e i z bytes ht hi hz hsize hby hzs v n xs hs hown ao c zs hx hr hnil h63 hbytes hbase h

end
end Go.Proofs.YtbddkkfakkedaaaGreatDoor
namespace Go.Proofs.YtbddkkfakkedaaaGreatDoor
open Go.RowKit
attribute [local go_sem ↓] Go.wp_at_zero Go.wp_at_succ
set_option linter.unusedVariables false

theorem hideV {p : Prop} (h : p) : Hid p := h
/-- within. -/
def wi (x m : Int) : Bool := decide (0 ≤ x ∧ x ≤ m)
/-- hasFlag. -/
def hfl (f fl : Int) : Bool := bits BinOp.and IntKind.i64 f fl != 0
theorem hfl_4 (f : Int) (h0 : 0 ≤ f) (h1 : f ≤ 31) : hfl f 4 = decide (f / 4 % 2 = 1) := by
  obtain ⟨n, rfl⟩ : ∃ n : Nat, f = n := ⟨f.toNat, by omega⟩
  exact (by decide +kernel : ∀ n : Nat, n < 32 → hfl (n : Int) 4 = decide ((n : Int) / 4 % 2 = 1)) n (by omega)
theorem hfl_8 (f : Int) (h0 : 0 ≤ f) (h1 : f ≤ 31) : hfl f 8 = decide (f / 8 % 2 = 1) := by
  obtain ⟨n, rfl⟩ : ∃ n : Nat, f = n := ⟨f.toNat, by omega⟩
  exact (by decide +kernel : ∀ n : Nat, n < 32 → hfl (n : Int) 8 = decide ((n : Int) / 8 % 2 = 1)) n (by omega)
theorem hfl_16 (f : Int) (h0 : 0 ≤ f) (h1 : f ≤ 31) : hfl f 16 = decide (f / 16 % 2 = 1) := by
  obtain ⟨n, rfl⟩ : ∃ n : Nat, f = n := ⟨f.toNat, by omega⟩
  exact (by decide +kernel : ∀ n : Nat, n < 32 → hfl (n : Int) 16 = decide ((n : Int) / 16 % 2 = 1)) n (by omega)
/-- mayHave. -/
def mhv (f fl : Int) (n : Nat) : Bool := hfl f fl || decide (n = 0)
/-- Whether there is a byte 0. -/
def haz (zs : List Int) : Bool := decide ((0 : Int) ∈ zs)
theorem haz_yes {zs : List Int} {k : Nat} (hk : k < zs.length) (h : zs.getD k 0 = 0) : haz zs = true := by
  refine decide_eq_true ?_
  rw [← h]
  simp [List.getD, hk]
theorem haz_no {zs : List Int} (h : ∀ j, j < zs.length → zs.getD j 0 ≠ 0) : haz zs = false := by
  refine decide_eq_false ?_
  intro hm
  obtain ⟨j, hj, e⟩ := List.getElem_of_mem hm
  refine h j hj ?_
  simp [List.getD, hj, e]
theorem within_any (x m : Int) (w : World) : Calls Tryz.prog 19 #[.int .i64 x, .int .i64 m] w fun e w' => e = .returned (.bool (wi x m)) ∧ w' = w := by
  by_cases c1 : 0 ≤ x
  · by_cases c2 : x ≤ m
    · have HV : Hid (true = wi x m) := (decide_eq_true ⟨c1, c2⟩).symm
      have d1 : decide (0 ≤ x) = true := decide_eq_true c1
      have d2 : decide (x ≤ m) = true := decide_eq_true c2
      go_enter Tryz.func19, Tryz.ntmps19
      go_wp2
      go_ret
      exact ⟨retb HV.out, rfl⟩
    · have HV : Hid (false = wi x m) := (decide_eq_false (by omega)).symm
      have d1 : decide (0 ≤ x) = true := decide_eq_true c1
      have d2 : decide (x ≤ m) = false := decide_eq_false c2
      go_enter Tryz.func19, Tryz.ntmps19
      go_wp2
      go_ret
      exact ⟨retb HV.out, rfl⟩
  · have HV : Hid (false = wi x m) := (decide_eq_false (by omega)).symm
    have d1 : decide (0 ≤ x) = false := decide_eq_false c1
    go_enter Tryz.func19, Tryz.ntmps19
    go_wp2
    go_ret
    exact ⟨retb HV.out, rfl⟩
theorem hasFlag_any (f mt xf os sz : Int) (ae an ac : Option Addr) (ne ce nn cn nc cc : Nat) (fl : Int) (w : World) :
    Calls Tryz.prog 30 #[.agg #[.int .i64 f, .int .i64 mt, .int .i64 xf, .int .i64 os, .slice ae ne ce, .slice an nn cn, .slice ac nc cc, .int .i64 sz], .int .i64 fl] w fun e w' => e = .returned (.bool (hfl f fl)) ∧ Below w.heap.size w w' := by
  go_enter Tryz.func30, Tryz.ntmps30
  go_wp2
  go_ret
  exact ⟨rfl, (Below.refl _ _).alloc (Nat.le_refl _) _⟩
theorem mayHave_any (f mt xf os sz : Int) (ae an ac : Option Addr) (ne ce nn cn nc cc : Nat) (fl : Int) (al : Option Addr) (nl cl : Nat) (w : World) :
    Calls Tryz.prog 55 #[.agg #[.int .i64 f, .int .i64 mt, .int .i64 xf, .int .i64 os, .slice ae ne ce, .slice an nn cn, .slice ac nc cc, .int .i64 sz], .int .i64 fl, .slice al nl cl] w fun e w' => e = .returned (.bool (mhv f fl nl)) ∧ Below w.heap.size w w' := by
  cases hf : hfl f fl with
  | true =>
    have HV : Hid (true = mhv f fl nl) := by show _ = _; rw [mhv, hf]; rfl
    go_enter Tryz.func55, Tryz.ntmps55
    go_wp2_with fail
    refine (hasFlag_any f mt xf os sz ae an ac ne ce nn cn nc cc fl _).mono ?_
    rintro e w1 ⟨rfl, hb1⟩
    rw [hf]
    go_wp2_with fail
    go_ret
    exact ⟨retb HV.out, ((Below.refl _ _).alloc (Nat.le_refl _) _).trans (hb1.mono (by simp))⟩
  | false =>
    have HV : Hid (decide (nl = 0) = mhv f fl nl) := by show _ = _; rw [mhv, hf]; rfl
    go_enter Tryz.func55, Tryz.ntmps55
    go_wp2_with fail
    refine (hasFlag_any f mt xf os sz ae an ac ne ce nn cn nc cc fl _).mono ?_
    rintro e w1 ⟨rfl, hb1⟩
    rw [hf]
    by_cases hn : nl = 0
    · subst hn
      go_wp2_with fail
      go_ret
      exact ⟨retb HV.out, ((Below.refl _ _).alloc (Nat.le_refl _) _).trans (hb1.mono (by simp))⟩
    · have hn' : ((nl : Int) == 0) = false := by simp [hn]
      have HV2 : Hid (false = mhv f fl nl) := by show _ = _; rw [← HV.out]; simp [hn]
      clear HV hn
      go_wp2_with fail
      go_ret
      exact ⟨retb HV2.out, ((Below.refl _ _).alloc (Nat.le_refl _) _).trans (hb1.mono (by simp))⟩
theorem index0_any (ao : Option Addr) (cap : Nat) (zs : List Int) (w : World) (hr : Row w ao zs) (hn : zs.length ≤ 140737488355328) :
    Calls Tryz.prog 93 #[.slice ao zs.length cap, .int .u8 0] w fun e w' => ∃ k : Int, e = .returned (.int .i64 k) ∧ decide (0 ≤ k) = haz zs ∧ ∃ q, w' = w.drewN q := by
  go_enter Tryz.func93, Tryz.ntmps93
  go_wp2_with fail
  go_loopw [8] (fun i wr => ∃ k : Nat, k ≤ zs.length ∧ i = .int .i64 k ∧ (∃ q, wr = w.drewN q) ∧ Hid (∀ j, j < k → zs.getD j 0 ≠ 0)) (fun i _ => zs.length - (intOf i).toNat)
  case atStart => exact ⟨0, Nat.zero_le _, rfl, ⟨0, rfl⟩, fun j hj => absurd hj (by omega)⟩
  case round =>
    obtain ⟨k, hk, rfl, ⟨q, rfl⟩, HE⟩ := hrel
    by_cases hlt : k < zs.length
    · obtain ⟨b1, o1, rfl, hc1⟩ := hr.at hlt
      have h1 := hc1 k hlt
      clear hc1 hr
      by_cases he : zs.getD k 0 = 0
      · have HF := hideV (haz_yes hlt he)
        rw [he] at h1
        clear he HE
        go_wp2_with fail
        go_ret
        refine ⟨_, rfl, ?_, ?_⟩
        · rw [HF.out]; exact decide_eq_true (by omega)
        · exact ⟨_, rfl⟩
      · have HN : Hid (∀ j, j < k + 1 → zs.getD j 0 ≠ 0) := by
          intro j hj
          rcases Nat.lt_succ_iff_lt_or_eq.1 hj with h | rfl
          · exact HE.out j h
          · exact he
        generalize zs.getD k 0 = x at *
        have hx : (0 == x) = false := by
          rw [beq_eq_false_iff_ne]
          omega
        clear he HE
        go_wp2_with fail
        go_roundw
        case rel => exact ⟨k + 1, by omega, by go_num, ⟨_, rfl⟩, HN⟩
        case measure => simp [intOf]; omega
    · have e : k = zs.length := by omega
      have HF : Hid (haz zs = false) := haz_no (fun j hj => HE.out j (by omega))
      clear HE
      go_wp2_with fail
      go_ret
      exact ⟨-1, rfl, by rw [HF.out]; decide, q, rfl⟩
theorem contains0_any (ao : Option Addr) (cap : Nat) (zs : List Int) (w : World) (hr : Row w ao zs) (hn : zs.length ≤ 140737488355328) :
    Calls Tryz.prog 56 #[.slice ao zs.length cap, .int .u8 0] w fun e w' => e = .returned (.bool (haz zs)) ∧ Below w.heap.size w w' := by
  go_enter Tryz.func56, Tryz.ntmps56
  go_wp2_with fail
  refine (index0_any ao cap zs _ hr hn).mono ?_
  rintro e w1 ⟨k, rfl, hk, q, rfl⟩
  have HK := hideV hk
  clear hk
  go_wp2_with fail
  go_ret
  exact ⟨retb HK.out, below_drewN' _ _ _⟩
theorem noZero_any (ao : Option Addr) (cap : Nat) (zs : List Int) (w : World) (hr : Row w ao zs) (hn : zs.length ≤ 140737488355328) :
    Calls Tryz.prog 62 #[.slice ao zs.length cap] w fun e w' => e = .returned (.bool (!haz zs)) ∧ Below w.heap.size w w' := by
  go_enter Tryz.func62, Tryz.ntmps62
  go_wp2_with fail
  go_loopw [3] (fun i wr => ∃ k : Nat, k ≤ zs.length ∧ i = .int .i64 k ∧ (∃ q, wr = w.drewN q) ∧ Hid (∀ j, j < k → zs.getD j 0 ≠ 0)) (fun i _ => zs.length - (intOf i).toNat)
  case atStart => exact ⟨0, Nat.zero_le _, rfl, ⟨0, rfl⟩, fun j hj => absurd hj (by omega)⟩
  case round =>
    obtain ⟨k, hk, rfl, ⟨q, rfl⟩, HE⟩ := hrel
    by_cases hlt : k < zs.length
    · obtain ⟨b1, o1, rfl, hc1⟩ := hr.at hlt
      have h1 := hc1 k hlt
      clear hc1 hr
      by_cases he : zs.getD k 0 = 0
      · have HF : Hid (false = !haz zs) := by show _ = _; rw [haz_yes hlt he]; rfl
        rw [he] at h1
        clear he HE
        go_wp2_with fail
        go_ret
        exact ⟨retb HF.out, below_drewN' _ _ _⟩
      · have HN : Hid (∀ j, j < k + 1 → zs.getD j 0 ≠ 0) := by
          intro j hj
          rcases Nat.lt_succ_iff_lt_or_eq.1 hj with h | rfl
          · exact HE.out j h
          · exact he
        generalize zs.getD k 0 = x at *
        have hx : (x == 0) = false := by
          rw [beq_eq_false_iff_ne]
          omega
        clear he HE
        go_wp2_with fail
        go_roundw
        case rel => exact ⟨k + 1, by omega, by go_num, ⟨_, rfl⟩, HN⟩
        case measure => simp [intOf]; omega
    · have e : k = zs.length := by omega
      have HF : Hid (true = !haz zs) := by show _ = _; rw [haz_no (fun j hj => HE.out j (by omega))]; rfl
      clear HE
      go_wp2_with fail
      go_ret
      exact ⟨retb HF.out, below_drewN' _ _ _⟩
end Go.Proofs.YtbddkkfakkedaaaGreatDoor
namespace Go.Proofs.YtbddkkfakkedaaaGreatDoor
open Go.RowKit
attribute [local go_sem ↓] Go.wp_at_zero Go.wp_at_succ
set_option linter.unusedVariables false

theorem hide1 {p : Prop} (h : p) : Hid p := h

/-- A window in memory: its two cells. -/
def Win (w : World) (p : Nat) (s : Int) (v : Value) : Prop :=
  w.cell? ⟨p, 0, none⟩ = some (.int .i64 s) ∧ w.cell? ⟨p, 1, none⟩ = some v ∧ w.frozen? ⟨p, 0, none⟩ = false ∧ w.frozen? ⟨p, 1, none⟩ = false
theorem win_new (w : World) (s : Int) (v : Value) (t : TypeId) : Win (w.alloc (.cells #[.int .i64 s, v] t)) w.heap.size s v := by
  simp [Win, go_sem]
theorem Win.two {w : World} {p : Nat} {s : Int} {v : Value} (h : Win w p s v) : w.cell? ⟨p, 0, none⟩ = some (.int .i64 s) ∧ w.cell? ⟨p, 1, none⟩ = some v := ⟨h.1, h.2.1⟩
theorem Win.lt {w : World} {p : Nat} {s : Int} {v : Value} (h : Win w p s v) : p < w.heap.size := World.block_lt_of_cell? w _ h.1
theorem Win.grown {w w' : World} {row : Option Nat} {p : Nat} {s : Int} {v : Value} (h : Win w p s v) (hg : w.grownBy w' row) (hne : some p ≠ row) : Win w' p s v := by
  obtain ⟨h1, h2, h4, h5⟩ := h
  have hp : p < w.heap.size := World.block_lt_of_cell? w _ h1
  have e := hg.block p hp hne
  exact ⟨(World.cell?_of_block (w := w) e).trans h1, (World.cell?_of_block (w := w) e).trans h2, (World.frozen?_of_block (w := w) e).trans h4, (World.frozen?_of_block (w := w) e).trans h5⟩
theorem Win.below {w w' : World} {p : Nat} {s : Int} {v : Value} (h : Win w p s v) (hb : Below w.heap.size w w') : Win w' p s v := h.grown (grownBy_of_below hb none) (by simp)
theorem Win.alloc {w : World} {p : Nat} {s : Int} {v : Value} (h : Win w p s v) (o : Obj) : Win (w.alloc o) p s v := h.grown (World.grownBy_alloc w o none) (by simp)
theorem win_set {w : World} {p : Nat} {s : Int} {v : Value} (h : Win w p s v) (s' : Int) (v' : Value) :
    Win ((w.setCell ⟨p, 0, none⟩ (.int .i64 s')).setCell ⟨p, 1, none⟩ v') p s' v' ∧ w.grownBy ((w.setCell ⟨p, 0, none⟩ (.int .i64 s')).setCell ⟨p, 1, none⟩ v') (some p) := by
  obtain ⟨c0, c1, f0, f1⟩ := h
  refine ⟨⟨?_, ?_, ?_, ?_⟩, ?_⟩
  · rw [World.cell?_setCell_other _ _ _ _ (by simp), World.cell?_setCell_same _ _ _ c0]
  · rw [World.cell?_setCell_same _ _ _ (u := v) (by rw [World.cell?_setCell_other _ _ _ _ (by simp)]; exact c1)]
  · simp [World.frozen?_setCell, f0]
  · simp [World.frozen?_setCell, f1]
  · exact grownBy_trans (grownBy_setCell w ⟨p, 0, none⟩ _) (grownBy_setCell _ ⟨p, 1, none⟩ _)

/-- ValidWindow, of the length and Size. -/
def vwin (n : Nat) (s : Int) : Bool := decide (1 ≤ s ∧ s ≤ 32768 ∧ (n : Int) ≤ s)
theorem vwin_true {n : Nat} {s : Int} (h : 1 ≤ s ∧ s ≤ 32768 ∧ (n : Int) ≤ s) : true = vwin n s := (decide_eq_true h).symm
theorem vwin_false {n : Nat} {s : Int} (h : ¬ (1 ≤ s ∧ s ≤ 32768 ∧ (n : Int) ≤ s)) : false = vwin n s := (decide_eq_false h).symm
theorem vwin_out {n : Nat} {s : Int} (h : vwin n s = true) : 1 ≤ s ∧ s ≤ 32768 ∧ (n : Int) ≤ s := of_decide_eq_true h

/-- Whether a window may have this size. -/
def vsz (s : Int) : Bool := decide (1 ≤ s ∧ s ≤ 32768)

end Go.Proofs.YtbddkkfakkedaaaGreatDoor
