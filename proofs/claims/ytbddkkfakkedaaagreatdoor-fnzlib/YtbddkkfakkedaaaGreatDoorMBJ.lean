import Derived.Test.YtbddkkfakkedaaaGreatDoorMAC
import Derived.Test.YtbddkkfakkedaaaGreatDoorMAU
import Derived.Test.YtbddkkfakkedaaaGreatDoorMBB
import Derived.Test.YtbddkkfakkedaaaGreatDoorMBI
namespace Go.Proofs.YtbddkkfakkedaaaGreatDoor
open Go.RowKit
attribute [local go_sem ↓] Go.wp_at_zero Go.wp_at_succ
set_option linter.unusedVariables false

end Go.Proofs.YtbddkkfakkedaaaGreatDoor
namespace Go.Proofs.YtbddkkfakkedaaaGreatDoor
open Go.RowKit
attribute [local go_sem ↓] Go.wp_at_zero Go.wp_at_succ
set_option linter.unusedVariables false

end Go.Proofs.YtbddkkfakkedaaaGreatDoor
namespace Go.Proofs.YtbddkkfakkedaaaGreatDoor
open Go.RowKit
attribute [local go_sem ↓] Go.wp_at_zero Go.wp_at_succ
set_option linter.unusedVariables false

theorem field_high (N i n : Nat) : field N i (n + 1) = field N i n + N / 2 ^ (i + n) % 2 * 2 ^ n := by
  unfold field
  rw [Nat.pow_succ, Nat.mod_mul, Nat.div_div_eq_div_mul, ← Nat.pow_add, Nat.mul_comm (2 ^ n)]
theorem nx3_zero {ls : List Int} {b n : Nat} (h : (nx3 ls b n).1 ≠ 1) : (nx3 ls b n).2.1 = 0 ∧ (nx3 ls b n).2.2 = 0 := by
  have h2 := nx3_is ls b n
  generalize nx3 ls b n = t at *
  obtain ⟨k, s, l⟩ := t
  dsimp only at *
  unfold AnsN at h2
  split at h2
  · rcases h2 with ⟨i, _, _, h3, _⟩ | ⟨i, _, _, _, h3, h4⟩ | ⟨_, _, h3, h4⟩
    · exact absurd h3 h
    · exact ⟨h3, h4⟩
    · exact ⟨h3, h4⟩
  · exact ⟨h2.2.1, h2.2.2⟩
theorem nx3_len {ls : List Int} {b n : Nat} : (nx3 ls b n).2.2 ≤ n := by
  by_cases h : (nx3 ls b n).1 = 1
  · exact (nx3_sym h).2
  · rw [(nx3_zero h).2]; exact Nat.zero_le _
theorem Reads.belowL {w w' : World} {ao : Option Addr} {n : Nat} {F : Nat → Nat × Nat} (h : Reads w ao n F) (hb : Below w.heap.size w w') : Reads w' ao n F := fun h0 => by
  obtain ⟨g, h1, h2⟩ := h h0
  exact ⟨g, h1, h2.grown (grownBy_of_below hb none) (by simp)⟩
theorem sh_ok (f1 bt k : Nat) (hf : f1 < 32768) (hb : bt < 2) (hk : k < 15) : IntKind.u64.wrap ((f1 : Int) + IntKind.u64.wrap ((bt : Int) * 2 ^ k)) = ((f1 + bt * 2 ^ k : Nat) : Int) := by
  have hp : 2 ^ k ≤ 16384 := (Nat.pow_le_pow_right (n := 2) (by decide) (show k ≤ 14 by omega) : 2 ^ k ≤ 2 ^ 14)
  rw [pow_int]
  generalize 2 ^ k = P at *
  rcases (show bt = 0 ∨ bt = 1 from by omega) with rfl | rfl
  · simp only [IntKind.wrap_u64]; omega
  · simp only [IntKind.wrap_u64]; omega
/-- A place in bits, in memory. -/
def L5m (w : World) (p : Nat) (v : Value) (i cl : Int) : Prop := w.cell? ⟨p, 0, none⟩ = some v ∧ w.cell? ⟨p, 1, none⟩ = some (.int .i64 i) ∧ w.cell? ⟨p, 2, none⟩ = some (.int .i64 cl) ∧ ∀ o, w.frozen? ⟨p, o, none⟩ = false
theorem L5m.lt {w : World} {p : Nat} {v : Value} {i cl : Int} (h : L5m w p v i cl) : p < w.heap.size := World.block_lt_of_cell? w _ h.1
theorem L5m.grown {w w' : World} {row : Option Nat} {p : Nat} {v : Value} {i cl : Int} (h : L5m w p v i cl) (hg : w.grownBy w' row) (hne : some p ≠ row) : L5m w' p v i cl := by
  have e := hg.block p h.lt hne
  obtain ⟨h0, h1, h2, h3⟩ := h
  exact ⟨(World.cell?_of_block (w := w) e).trans h0, (World.cell?_of_block (w := w) e).trans h1, (World.cell?_of_block (w := w) e).trans h2, fun o => (World.frozen?_of_block (w := w) e).trans (h3 o)⟩
theorem L5m.below {w w' : World} {p : Nat} {v : Value} {i cl : Int} (h : L5m w p v i cl) (hb : Below w.heap.size w w') : L5m w' p v i cl := h.grown (grownBy_of_below hb none) (by simp)
theorem l5m_new (w : World) (v : Value) (i cl : Int) (t : TypeId) : L5m (w.alloc (.cells #[v, .int .i64 i, .int .i64 cl] t)) w.heap.size v i cl := by
  refine ⟨?_, ?_, ?_, ?_⟩ <;> simp [go_sem]
theorem set_same {w : World} {a : Addr} {u : Value} (v : Value) (h : w.cell? a = some u) : (w.setCell a v).cell? a = some v := World.cell?_setCell_same _ _ _ h
theorem set_far {w : World} {p i j : Nat} {u : Option Value} (v : Value) (hij : i ≠ j) (h : w.cell? ⟨p, j, none⟩ = u) : (w.setCell ⟨p, i, none⟩ v).cell? ⟨p, j, none⟩ = u := by
  rw [World.cell?_setCell_other _ _ _ _ (by first | (simp; done) | (simp; omega))]; exact h
theorem L5m.set1 {w : World} {p : Nat} {v : Value} {i cl : Int} (h : L5m w p v i cl) (x : Int) : L5m (w.setCell ⟨p, 1, none⟩ (.int .i64 x)) p v x cl :=
  ⟨set_far _ (by decide) h.1, set_same _ h.2.1, set_far _ (by decide) h.2.2.1, fun o => by rw [World.frozen?_setCell]; exact h.2.2.2 o⟩
theorem L5m.set2 {w : World} {p : Nat} {v : Value} {i cl : Int} (h : L5m w p v i cl) (x : Int) : L5m (w.setCell ⟨p, 2, none⟩ (.int .i64 x)) p v i x :=
  ⟨set_far _ (by decide) h.1, set_far _ (by decide) h.2.1, set_same _ h.2.2.1, fun o => by rw [World.frozen?_setCell]; exact h.2.2.2 o⟩
/-- All three cells laid. -/
theorem L5m.set {w : World} {p : Nat} {v : Value} {i cl : Int} (h : L5m w p v i cl) (v' : Value) (i' cl' : Int) : L5m (((w.setCell ⟨p, 0, none⟩ v').setCell ⟨p, 1, none⟩ (.int .i64 i')).setCell ⟨p, 2, none⟩ (.int .i64 cl')) p v' i' cl' ∧ w.grownBy (((w.setCell ⟨p, 0, none⟩ v').setCell ⟨p, 1, none⟩ (.int .i64 i')).setCell ⟨p, 2, none⟩ (.int .i64 cl')) (some p) :=
  ⟨⟨set_far _ (by decide) (set_far _ (by decide) (set_same _ h.1)), set_far _ (by decide) (set_same _ (set_far _ (by decide) h.2.1)), set_same _ (set_far _ (by decide) (set_far _ (by decide) h.2.2.1)), fun o => by rw [World.frozen?_setCell, World.frozen?_setCell, World.frozen?_setCell]; exact h.2.2.2 o⟩,
    grownBy_trans (grownBy_trans (grownBy_setCell w ⟨p, 0, none⟩ _) (grownBy_setCell _ ⟨p, 1, none⟩ _)) (grownBy_setCell _ ⟨p, 2, none⟩ _)⟩
end Go.Proofs.YtbddkkfakkedaaaGreatDoor
namespace Go.Proofs.YtbddkkfakkedaaaGreatDoor
open Go.RowKit
attribute [local go_sem ↓] Go.wp_at_zero Go.wp_at_succ
set_option linter.unusedVariables false

section
variable {P : Program} (w : World)
/-- append of elements that lie anywhere onto a row of the call's own; where the row lies then. -/
theorem wpList_append_cells2 {ops : Array Oper} {rest : List Oper} {o : Oper} {a : Act} {Q : Exit → Act → World → Prop} (hgd : o.guard = none) (s x : Operand) (t : TypeId)
    (ho : o.op = .call { callee := .builtin .append, args := #[s, x], argTypes := #[t, t] })
    (base : Nat) (e : TypeId) (i : TypeInfo) (z : Value) (size bytes : Nat) (ht : P.underlying t = some (.slice e)) (hi : P.info? e = some i) (hz : i.zero = some z)
    (hsize : i.size = size) (hby : i.bytes = bytes) (hzs : z.cells.size = size) (hsz : 0 < size)
    (v : Value) (n : Nat) (xs : List Value) (hs : a.eval s = v) (hown : w.ownsRow base e size v n xs) (ad : Addr) (m c : Nat) (news : List Value) (hx : a.eval x = .slice (some ad) m c)
    (hl : news.length = m * size) (hnews : ∀ j u, news[j]? = some u → w.cell? (ad.add j) = some u) (h1 : ∀ u ∈ news, u.oneCell' = true)
    (h63 : n + m ≤ maxLen) (hbytes : (n + m) * bytes ≤ 140737488355328) (hbase : base ≤ w.heap.size)
    (h : ∀ v' w', w'.ownsRow base e size v' (n + m) (xs ++ news) → w.grownBy w' v.ownBlock → (v'.ownBlock = v.ownBlock ∨ v'.ownBlock = some w.heap.size) → wpList P ops Q rest (a.put o.dst v') w') : wpList P ops Q (o :: rest) a w := by
  refine wpList_plain hgd fun K hK => ?_
  obtain ⟨v', w', hr, h2, h3, _, h5⟩ := run_append_own_at (P := P) w base t o.type e i z size bytes ht hi hz hsize hby hzs hsz v n xs hown ad m c news hl hnews h1 h63 hbytes hbase
  unfold Oper.wp execOp
  simp only [ho, resolve, invoke, builtin, Sem.run_bind, Sem.run_pure, Result.andThen_ok, List.map_toArray, List.map_cons, List.map_nil, hs, hx, hr]
  exact hK _ _ (h v' w' h2 h3 h5)
end
theorem grownBy_row {a b c : World} {r r' : Option Nat} (h : a.grownBy b r) (k : b.grownBy c r') (hr : ∀ g, r' = some g → r = some g ∨ a.heap.size ≤ g) : a.grownBy c r := by
  refine ⟨k.os.trans h.os, k.tape.trans h.tape, k.output.trans h.output, Nat.le_trans h.size k.size, fun i hi hne => ?_⟩
  rw [k.block i (Nat.lt_of_lt_of_le hi h.size) ?_, h.block i hi hne]
  intro e
  rcases hr i e.symm with h1 | h1
  · exact hne h1.symm
  · omega
theorem orR {a b c : Prop} (h : a ∨ b) (f : b → c) : a ∨ c := by
  rcases h with h | h
  · exact .inl h
  · exact .inr (f h)
theorem OwnsI.lies {B : Nat} {w : World} {ao : Option Addr} {cap : Nat} {zs : List Int} (h : OwnsI B w ao cap zs) : ∀ g, blk ao = some g → g < w.heap.size := by
  intro g e
  rcases h.2 with ⟨h1, _⟩ | ⟨g', cap', cur, h1, h2, h3, _⟩
  · simp only [Value.slice.injEq] at h1
    rw [h1.1] at e
    cases e
  · simp only [Value.slice.injEq] at h1
    rw [h1.1] at e
    simp [blk] at e
    subst e
    exact (Array.getElem?_eq_some_iff.1 h3).1
end Go.Proofs.YtbddkkfakkedaaaGreatDoor
namespace Go.Proofs.YtbddkkfakkedaaaGreatDoor
open Go.RowKit
attribute [local go_sem ↓] Go.wp_at_zero Go.wp_at_succ
set_option linter.unusedVariables false

/-- Two lists of numbers that are the call's own and lie apart. -/
structure LensIn (B : Nat) (w : World) (a1 : Option Addr) (c1 : Nat) (ls : List Int) (a2 : Option Addr) (c2 : Nat) (ds : List Int) : Prop where
  o1 : OwnsI B w a1 c1 ls
  o2 : OwnsI B w a2 c2 ds
  ne : ∀ g, blk a1 = some g → blk a2 ≠ some g
theorem LensIn.grown {B : Nat} {w w' : World} {row : Option Nat} {a1 a2 : Option Addr} {c1 c2 : Nat} {ls ds : List Int} (h : LensIn B w a1 c1 ls a2 c2 ds) (hg : w.grownBy w' row) (h1 : ∀ k, row = some k → blk a1 ≠ some k) (h2 : ∀ k, row = some k → blk a2 ≠ some k) : LensIn B w' a1 c1 ls a2 c2 ds :=
  ⟨h.o1.grown hg h1, h.o2.grown hg h2, h.ne⟩
theorem LensIn.below {B : Nat} {w w' : World} {a1 a2 : Option Addr} {c1 c2 : Nat} {ls ds : List Int} (h : LensIn B w a1 c1 ls a2 c2 ds) (hb : Below w.heap.size w w') : LensIn B w' a1 c1 ls a2 c2 ds := ⟨h.o1.below hb, h.o2.below hb, h.ne⟩
theorem OwnsI.nil (B : Nat) (w : World) : OwnsI B w none 0 [] := ⟨rfl, .inl ⟨rfl, rfl⟩⟩
theorem LensIn.nil (B : Nat) (w : World) : LensIn B w none 0 [] none 0 [] := ⟨OwnsI.nil B w, OwnsI.nil B w, fun g e => by cases e⟩
/-- What ReadLens answers: number, lengths of both codes, bits. -/
def LensIs (k : Int) (ls ds : List Int) (n : Int) (e : Ending) (w w' : World) : Prop :=
  ∃ a1 c1 a2 c2, e = .returned (.agg #[.int .i64 k, .slice a1 ls.length c1, .slice a2 ds.length c2, .int .i64 n]) ∧ LensIn w.heap.size w' a1 c1 ls a2 c2 ds ∧ Below w.heap.size w w'
end Go.Proofs.YtbddkkfakkedaaaGreatDoor
namespace Go.Proofs.YtbddkkfakkedaaaGreatDoor
open Go.RowKit
attribute [local go_sem ↓] Go.wp_at_zero Go.wp_at_succ
set_option linter.unusedVariables false

theorem OwnsB.based {e B : Nat} {w : World} {ao : Option Addr} {cap : Nat} {zs : List Int} (h : OwnsB e B w ao cap zs) : ∀ g, blk ao = some g → B ≤ g := by
  intro g e
  rcases h.2 with ⟨h1, _⟩ | ⟨g', cap', cur, h1, h2, _⟩
  · simp only [Value.slice.injEq] at h1
    rw [h1.1] at e
    cases e
  · simp only [Value.slice.injEq] at h1
    rw [h1.1] at e
    simp [blk] at e
    omega
theorem mach_set (w : World) (g : Nat) (v0 v1 x0 x1 : Value) (h0 : w.cell? ⟨g, 0, none⟩ = some v0) (h1 : w.cell? ⟨g, 1, none⟩ = some v1) :
    ((w.setCell ⟨g, 0, none⟩ x0).setCell ⟨g, 1, none⟩ x1).cell? ⟨g, 0, none⟩ = some x0 ∧ ((w.setCell ⟨g, 0, none⟩ x0).setCell ⟨g, 1, none⟩ x1).cell? ⟨g, 1, none⟩ = some x1 ∧ w.grownBy ((w.setCell ⟨g, 0, none⟩ x0).setCell ⟨g, 1, none⟩ x1) (some g) := by
  have hn : ∀ (W : World) (x : Value) (i j : Nat), i ≠ j → (W.setCell ⟨g, i, none⟩ x).cell? ⟨g, j, none⟩ = W.cell? ⟨g, j, none⟩ := fun W x i j hij => World.cell?_setCell_other _ _ _ _ (by first | (simp; done) | (simp; omega))
  refine ⟨?_, ?_, grownBy_trans (grownBy_setCell w ⟨g, 0, none⟩ x0) (grownBy_setCell _ ⟨g, 1, none⟩ x1)⟩
  · rw [hn _ _ 1 0 (by decide), World.cell?_setCell_same _ _ _ h0]
  · exact World.cell?_setCell_same _ _ _ ((hn _ _ 0 1 (by decide)).trans h1)
set_option maxRecDepth 100000 in
theorem newMachine_any (w : World) :
    Calls Tryz.prog 82 #[] w fun e w' => ∃ p ao cap, e = .returned (.agg #[.pointer (some ⟨p, 0, none⟩), .nilFunc]) ∧ Src w' p (.slice ao 0 cap) 0 0 ∧ OwnsB 5 w.heap.size w' ao cap [] ∧ w.heap.size < p ∧ p < w'.heap.size ∧ blk ao ≠ some p ∧ Below w.heap.size w w' := by
  have B0 : Hid (Below w.heap.size w (w.alloc (.cells #[.pointer none, .nilFunc] 64))) := (Below.refl _ _).alloc (Nat.le_refl _) _
  have HS := hideM (openSource_owns none 0 [] 0 0 (w.alloc (.cells #[.pointer none, .nilFunc] 64)) (Row.nil _ _) (fun _ => rfl) (by simp))
  go_enter Tryz.func82, Tryz.ntmps82
  go_wp2_with fail
  refine Calls.mono HS.out ?_
  rintro e w1 ⟨p, ao, cap, rfl, hs, ho, hp, hp2, hne, hb⟩
  have hz : (w.alloc (.cells #[.pointer none, .nilFunc] 64)).heap.size = w.heap.size + 1 := by simp
  rw [hz] at ho hp hb
  have c0 : w1.cell? ⟨w.heap.size, 0, none⟩ = some (.pointer none) := by rw [hb.cell (p := ⟨w.heap.size, 0, none⟩) (by simp)]; simp [go_sem]
  have c1 : w1.cell? ⟨w.heap.size, 1, none⟩ = some .nilFunc := by rw [hb.cell (p := ⟨w.heap.size, 1, none⟩) (by simp)]; simp [go_sem]
  have f0 : w1.frozen? ⟨w.heap.size, 0, none⟩ = false := by rw [hb.frozen (p := ⟨w.heap.size, 0, none⟩) (by simp)]; simp [go_sem]
  have f1 : w1.frozen? ⟨w.heap.size, 1, none⟩ = false := by rw [hb.frozen (p := ⟨w.heap.size, 1, none⟩) (by simp)]; simp [go_sem]
  obtain ⟨y0, y1, hg⟩ := mach_set w1 w.heap.size _ _ (.pointer (some ⟨p, 0, none⟩)) .nilFunc c0 c1
  have hz1 : w.heap.size < w1.heap.size := by have := hb.size; omega
  have hst := store_nilf (w1.setCell ⟨w.heap.size, 0, none⟩ (.pointer (some ⟨p, 0, none⟩))) ⟨w.heap.size, 1, none⟩ .nilFunc ((World.cell?_setCell_other _ _ _ _ (by simp)).trans c1) (by rw [World.frozen?_setCell]; exact f1)
  have Y := hideM (And.intro y0 y1)
  have S2 := hideM (hs.grown hg (by simp; omega))
  have O2 := hideM (OwnsB.grown (OwnsB.mono ho (Nat.le_succ _)) hg (fun k e hk => by have := OwnsB.based ho k hk; simp at e; omega))
  have B2 := hideM ((B0.out.trans (hb.mono (by omega))).grown hg (by omega) (fun k e => by simp at e; omega))
  have Z2 : Hid (p < ((w1.setCell ⟨w.heap.size, 0, none⟩ (.pointer (some ⟨p, 0, none⟩))).setCell ⟨w.heap.size, 1, none⟩ .nilFunc).heap.size) := Nat.lt_of_lt_of_le hp2 hg.size
  have HP := hideM (And.intro hp hne)
  clear hs ho hp hne hb hg y0 y1 B0 HS hz hp2
  go_wp2_with fail
  exact bodyPost_ret (v := .agg #[.pointer (some ⟨p, 0, none⟩), .nilFunc]) (by simp [results, Tryz.results82, go_sem, Y.out.1, Y.out.2]) rfl ⟨p, ao, cap, rfl, S2.out, O2.out, by have := HP.out.1; omega, Z2.out, HP.out.2, B2.out⟩
set_option maxRecDepth 100000 in
set_option maxHeartbeats 3200000 in
/-- A source that is empty is fed. -/
theorem feed_new (p : Nat) (ao co : Option Addr) (cap cc : Nat) (cs : List Int) (B : Nat) (w : World) (hs : Src w p (.slice ao 0 cap) 0 0) (ho : OwnsB 5 B w ao cap []) (hB : B ≤ w.heap.size) (hBp : B ≤ p) (hpb : blk ao ≠ some p) (hr : Row w co cs) (hnil : co = none → cs.length = 0 ∧ cc = 0) (hc : cs.length ≤ 65536) :
    Calls Tryz.prog 24 #[.pointer (some ⟨p, 0, none⟩), .slice co cs.length cc] w fun e w' => e = .returned (.tuple #[]) ∧ (∃ ao' cap', Src w' p (.slice ao' cs.length cap') 0 0 ∧ Row w' ao' cs ∧ cs.length ≤ cap' ∧ ∀ ad, ao' = some ad → (blk ao = some ad.block ∨ w.heap.size ≤ ad.block) ∧ B ≤ ad.block ∧ ad.block < w'.heap.size) ∧ (∀ k, k < w.heap.size → k ≠ p → blk ao ≠ some k → w'.heap[k]? = w.heap[k]?) ∧ Below B w w' := by
  obtain ⟨i0, hi, hz0, hz1, hz2⟩ := info_parts Tryz.info_u8s
  have HN : Hid (co = none → cs.length = 0 ∧ cc = 0) := hnil
  clear hnil
  have hp : p < w.heap.size := World.block_lt_of_cell? w _ hs.1
  have hd : decide ((cs.length : Int) ≤ 1000000) = true := decide_eq_true (by omega)
  have hd2 : decide ((0 : Int) + (cs.length : Int) ≤ 1000000) = true := decide_eq_true (by omega)
  have hs' := hs
  obtain ⟨c0, c1, c2, f0, f1, f2⟩ := hs'
  have HO := hideM ho
  have HPB := hideM hpb
  go_enter Tryz.func24, Tryz.ntmps24
  go_wp2_with (at_builtin; refine wpList_append_row _ rfl _ _ 22 rfl B 5 i0 (.int .u8 0) 1 Tryz.underlying22 hi hz0 hz1 hz2 rfl (.slice ao 0 cap) 0 [] rfl HO.out co cc cs rfl hr HN.out (by unfold maxLen; omega) (by omega) hB ?_)
  intro v' w1 hown hgrow hat
  obtain ⟨ao', cap', e', ho'⟩ := OwnsB.of hown
  subst e'
  have hown' : (Value.slice ao' cs.length cap').ownBlock = blk ao' := by cases ao' <;> rfl
  have hown2 : (Value.slice ao 0 cap).ownBlock = blk ao := by cases ao <;> rfl
  rw [hown', hown2] at hat
  rw [hown2] at hgrow
  have hs1 := hs.grown hgrow (fun e => hpb e.symm)
  obtain ⟨k1, k2, k3⟩ := src_set0 hs1 (.slice ao' cs.length cap')
  have hne : blk ao' ≠ some p := by
    rcases hat with h1 | h1
    · rw [h1]; exact hpb
    · rw [h1]; simp; omega
  have hm := ho'.mine.grown k2 (by intro k e; simp at e; subst e; exact hne)
  have HAT : Hid (∀ ad, ao' = some ad → blk ao = some ad.block ∨ w.heap.size ≤ ad.block) := by
    intro ad e
    subst e
    rcases hat with h1 | h1
    · exact .inl h1.symm
    · right; simp [blk] at h1; omega
  have BW := hideM ((((Below.refl B w).grown hgrow hB (fun k e => OwnsB.based HO.out k e))).grown k2 (Nat.le_trans hB hgrow.size) (fun k e => by simp at e; omega))
  have HK : Hid (∀ k, k < w.heap.size → k ≠ p → blk ao ≠ some k → (w1.setCell ⟨p, 0, none⟩ (.slice ao' cs.length cap')).heap[k]? = w.heap[k]?) := by
    intro k h1 h2 h3
    rw [k2.block k (Nat.lt_of_lt_of_le h1 hgrow.size) (by simp; exact h2), hgrow.block k h1 (fun e => h3 e.symm)]
  have HM := hideM hm
  have K1 := hideM k1
  obtain ⟨y0, y1, y2, e0, e1, e2⟩ := hs1
  clear hown hgrow hat ho ho' k1 k2 k3 hr hs c0 c1 c2 f0 f1 f2 hm hne hpb
  go_wp2_with fail
  go_end0
  exact ⟨rfl, ⟨ao', cap', K1.out, HM.out.row, HM.out.fits, fun ad e => ⟨HAT.out ad e, (HM.out.lies ad e).1, (HM.out.lies ad e).2.1⟩⟩, HK.out, BW.out⟩
end Go.Proofs.YtbddkkfakkedaaaGreatDoor
