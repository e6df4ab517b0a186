import Derived.Test.YtlfabilmilkboaaGreatDoorMAE
import Derived.Test.YtlfabilmilkboaaGreatDoorMAN
import Derived.Test.YtlfabilmilkboaaGreatDoorMAP
import Derived.Test.YtlfabilmilkboaaGreatDoorMAS
import Derived.Test.YtlfabilmilkboaaGreatDoorMAZ
import Derived.Test.YtlfabilmilkboaaGreatDoorMBI
import Derived.Test.YtlfabilmilkboaaGreatDoorMBK
import Derived.Test.YtlfabilmilkboaaGreatDoorMBM
namespace Go.Proofs.YtlfabilmilkboaaGreatDoor
open Go.RowKit
attribute [local go_sem ↓] Go.wp_at_zero Go.wp_at_succ
set_option linter.unusedVariables false

/-- Two lists of numbers that are the call's own and lie apart. -/
structure LensIn (B : Nat) (w : World) (a1 : Option Addr) (c1 : Nat) (ls : List Int) (a2 : Option Addr) (c2 : Nat) (ds : List Int) : Prop where
  o1 : OwnsI B w a1 c1 ls
  o2 : OwnsI B w a2 c2 ds
  ne : ∀ g, blk a1 = some g → blk a2 ≠ some g
theorem LensIn.grown {B : Nat} {w w' : World} {row : Option Nat} {a1 a2 : Option Addr} {c1 c2 : Nat} {ls ds : List Int} (h : LensIn B w a1 c1 ls a2 c2 ds) (hg : w.grownBy w' row) (h1 : ∀ k, row = some k → blk a1 ≠ some k) (h2 : ∀ k, row = some k → blk a2 ≠ some k) : LensIn B w' a1 c1 ls a2 c2 ds :=
  ⟨h.o1.grown hg h1, h.o2.grown hg h2, h.ne⟩
theorem LensIn.below {B : Nat} {w w' : World} {a1 a2 : Option Addr} {c1 c2 : Nat} {ls ds : List Int} (h : LensIn B w a1 c1 ls a2 c2 ds) (hb : Below w.heap.size w w') : LensIn B w' a1 c1 ls a2 c2 ds := ⟨h.o1.below hb, h.o2.below hb, h.ne⟩
theorem OwnsI.nil (B : Nat) (w : World) : OwnsI B w none 0 [] := ⟨rfl, .inl ⟨rfl, rfl⟩⟩
theorem LensIn.nil (B : Nat) (w : World) : LensIn B w none 0 [] none 0 [] := ⟨OwnsI.nil B w, OwnsI.nil B w, fun g e => by cases e⟩
/-- What ReadLens answers: number, lengths of both codes, bits. -/
def LensIs (k : Int) (ls ds : List Int) (n : Int) (e : Ending) (w w' : World) : Prop :=
  ∃ a1 c1 a2 c2, e = .returned (.agg #[.int .i64 k, .slice a1 ls.length c1, .slice a2 ds.length c2, .int .i64 n]) ∧ LensIn w.heap.size w' a1 c1 ls a2 c2 ds ∧ Below w.heap.size w w'
end Go.Proofs.YtlfabilmilkboaaGreatDoor
namespace Go.Proofs.YtlfabilmilkboaaGreatDoor
open Go.RowKit
attribute [local go_sem ↓] Go.wp_at_zero Go.wp_at_succ
set_option linter.unusedVariables false

theorem OwnsB.based {e B : Nat} {w : World} {ao : Option Addr} {cap : Nat} {zs : List Int} (h : OwnsB e B w ao cap zs) : ∀ g, blk ao = some g → B ≤ g := by
  intro g e
  rcases h.2 with ⟨h1, _⟩ | ⟨g', cap', cur, h1, h2, _⟩
  · simp only [Value.slice.injEq] at h1
    rw [h1.1] at e
    cases e
  · simp only [Value.slice.injEq] at h1
    rw [h1.1] at e
    simp [blk] at e
    omega
theorem mach_set (w : World) (g : Nat) (v0 v1 x0 x1 : Value) (h0 : w.cell? ⟨g, 0, none⟩ = some v0) (h1 : w.cell? ⟨g, 1, none⟩ = some v1) :
    ((w.setCell ⟨g, 0, none⟩ x0).setCell ⟨g, 1, none⟩ x1).cell? ⟨g, 0, none⟩ = some x0 ∧ ((w.setCell ⟨g, 0, none⟩ x0).setCell ⟨g, 1, none⟩ x1).cell? ⟨g, 1, none⟩ = some x1 ∧ w.grownBy ((w.setCell ⟨g, 0, none⟩ x0).setCell ⟨g, 1, none⟩ x1) (some g) := by
  have hn : ∀ (W : World) (x : Value) (i j : Nat), i ≠ j → (W.setCell ⟨g, i, none⟩ x).cell? ⟨g, j, none⟩ = W.cell? ⟨g, j, none⟩ := fun W x i j hij => World.cell?_setCell_other _ _ _ _ (by first | (simp; done) | (simp; omega))
  refine ⟨?_, ?_, grownBy_trans (grownBy_setCell w ⟨g, 0, none⟩ x0) (grownBy_setCell _ ⟨g, 1, none⟩ x1)⟩
  · rw [hn _ _ 1 0 (by decide), World.cell?_setCell_same _ _ _ h0]
  · exact World.cell?_setCell_same _ _ _ ((hn _ _ 0 1 (by decide)).trans h1)
set_option maxRecDepth 100000 in
theorem newMachine_any (w : World) :
    Calls Tryz.prog 28 #[] w fun e w' => ∃ p ao cap, e = .returned (.agg #[.pointer (some ⟨p, 0, none⟩), .nilFunc]) ∧ Src w' p (.slice ao 0 cap) 0 0 ∧ OwnsB 5 w.heap.size w' ao cap [] ∧ w.heap.size < p ∧ p < w'.heap.size ∧ blk ao ≠ some p ∧ Below w.heap.size w w' := by
  have B0 : Hid (Below w.heap.size w (w.alloc (.cells #[.pointer none, .nilFunc] 52))) := (Below.refl _ _).alloc (Nat.le_refl _) _
  have HS := hideM (openSource_owns none 0 [] 0 0 (w.alloc (.cells #[.pointer none, .nilFunc] 52)) (Row.nil _ _) (fun _ => rfl) (by simp))
  go_enter Tryz.func28, Tryz.ntmps28
  go_wp2_with fail
  refine Calls.mono HS.out ?_
  rintro e w1 ⟨p, ao, cap, rfl, hs, ho, hp, hp2, hne, hb⟩
  have hz : (w.alloc (.cells #[.pointer none, .nilFunc] 52)).heap.size = w.heap.size + 1 := by simp
  rw [hz] at ho hp hb
  have c0 : w1.cell? ⟨w.heap.size, 0, none⟩ = some (.pointer none) := by rw [hb.cell (p := ⟨w.heap.size, 0, none⟩) (by simp)]; simp [go_sem]
  have c1 : w1.cell? ⟨w.heap.size, 1, none⟩ = some .nilFunc := by rw [hb.cell (p := ⟨w.heap.size, 1, none⟩) (by simp)]; simp [go_sem]
  have f0 : w1.frozen? ⟨w.heap.size, 0, none⟩ = false := by rw [hb.frozen (p := ⟨w.heap.size, 0, none⟩) (by simp)]; simp [go_sem]
  have f1 : w1.frozen? ⟨w.heap.size, 1, none⟩ = false := by rw [hb.frozen (p := ⟨w.heap.size, 1, none⟩) (by simp)]; simp [go_sem]
  obtain ⟨y0, y1, hg⟩ := mach_set w1 w.heap.size _ _ (.pointer (some ⟨p, 0, none⟩)) .nilFunc c0 c1
  have hz1 : w.heap.size < w1.heap.size := by have := hb.size; omega
  have hst := store_nilf (w1.setCell ⟨w.heap.size, 0, none⟩ (.pointer (some ⟨p, 0, none⟩))) ⟨w.heap.size, 1, none⟩ .nilFunc ((World.cell?_setCell_other _ _ _ _ (by simp)).trans c1) (by rw [World.frozen?_setCell]; exact f1)
  have Y := hideM (And.intro y0 y1)
  have S2 := hideM (hs.grown hg (by simp; omega))
  have O2 := hideM (OwnsB.grown (OwnsB.mono ho (Nat.le_succ _)) hg (fun k e hk => by have := OwnsB.based ho k hk; simp at e; omega))
  have B2 := hideM ((B0.out.trans (hb.mono (by omega))).grown hg (by omega) (fun k e => by simp at e; omega))
  have Z2 : Hid (p < ((w1.setCell ⟨w.heap.size, 0, none⟩ (.pointer (some ⟨p, 0, none⟩))).setCell ⟨w.heap.size, 1, none⟩ .nilFunc).heap.size) := Nat.lt_of_lt_of_le hp2 hg.size
  have HP := hideM (And.intro hp hne)
  clear hs ho hp hne hb hg y0 y1 B0 HS hz hp2
  go_wp2_with fail
  exact bodyPost_ret (v := .agg #[.pointer (some ⟨p, 0, none⟩), .nilFunc]) (by simp [results, Tryz.results28, go_sem, Y.out.1, Y.out.2]) rfl ⟨p, ao, cap, rfl, S2.out, O2.out, by have := HP.out.1; omega, Z2.out, HP.out.2, B2.out⟩
set_option maxRecDepth 100000 in
set_option maxHeartbeats 3200000 in
/-- A source that is empty is fed. -/
theorem feed_new (p : Nat) (ao co : Option Addr) (cap cc : Nat) (cs : List Int) (B : Nat) (w : World) (hs : Src w p (.slice ao 0 cap) 0 0) (ho : OwnsB 5 B w ao cap []) (hB : B ≤ w.heap.size) (hBp : B ≤ p) (hpb : blk ao ≠ some p) (hr : Row w co cs) (hnil : co = none → cs.length = 0 ∧ cc = 0) (hc : cs.length ≤ 65536) :
    Calls Tryz.prog 18 #[.pointer (some ⟨p, 0, none⟩), .slice co cs.length cc] w fun e w' => e = .returned (.tuple #[]) ∧ (∃ ao' cap', Src w' p (.slice ao' cs.length cap') 0 0 ∧ Row w' ao' cs ∧ cs.length ≤ cap' ∧ ∀ ad, ao' = some ad → (blk ao = some ad.block ∨ w.heap.size ≤ ad.block) ∧ B ≤ ad.block ∧ ad.block < w'.heap.size) ∧ (∀ k, k < w.heap.size → k ≠ p → blk ao ≠ some k → w'.heap[k]? = w.heap[k]?) ∧ Below B w w' := by
  obtain ⟨i0, hi, hz0, hz1, hz2⟩ := info_parts Tryz.info_u8s
  have HN : Hid (co = none → cs.length = 0 ∧ cc = 0) := hnil
  clear hnil
  have hp : p < w.heap.size := World.block_lt_of_cell? w _ hs.1
  have hd : decide ((cs.length : Int) ≤ 1000000) = true := decide_eq_true (by omega)
  have hd2 : decide ((0 : Int) + (cs.length : Int) ≤ 1000000) = true := decide_eq_true (by omega)
  have hs' := hs
  obtain ⟨c0, c1, c2, f0, f1, f2⟩ := hs'
  have HO := hideM ho
  have HPB := hideM hpb
  go_enter Tryz.func18, Tryz.ntmps18
  go_wp2_with (at_builtin; refine wpList_append_row _ rfl _ _ 22 rfl B 5 i0 (.int .u8 0) 1 Tryz.underlying22 hi hz0 hz1 hz2 rfl (.slice ao 0 cap) 0 [] rfl HO.out co cc cs rfl hr HN.out (by unfold maxLen; omega) (by omega) hB ?_)
  intro v' w1 hown hgrow hat
  obtain ⟨ao', cap', e', ho'⟩ := OwnsB.of hown
  subst e'
  have hown' : (Value.slice ao' cs.length cap').ownBlock = blk ao' := by cases ao' <;> rfl
  have hown2 : (Value.slice ao 0 cap).ownBlock = blk ao := by cases ao <;> rfl
  rw [hown', hown2] at hat
  rw [hown2] at hgrow
  have hs1 := hs.grown hgrow (fun e => hpb e.symm)
  obtain ⟨k1, k2, k3⟩ := src_set0 hs1 (.slice ao' cs.length cap')
  have hne : blk ao' ≠ some p := by
    rcases hat with h1 | h1
    · rw [h1]; exact hpb
    · rw [h1]; simp; omega
  have hm := ho'.mine.grown k2 (by intro k e; simp at e; subst e; exact hne)
  have HAT : Hid (∀ ad, ao' = some ad → blk ao = some ad.block ∨ w.heap.size ≤ ad.block) := by
    intro ad e
    subst e
    rcases hat with h1 | h1
    · exact .inl h1.symm
    · right; simp [blk] at h1; omega
  have BW := hideM ((((Below.refl B w).grown hgrow hB (fun k e => OwnsB.based HO.out k e))).grown k2 (Nat.le_trans hB hgrow.size) (fun k e => by simp at e; omega))
  have HK : Hid (∀ k, k < w.heap.size → k ≠ p → blk ao ≠ some k → (w1.setCell ⟨p, 0, none⟩ (.slice ao' cs.length cap')).heap[k]? = w.heap[k]?) := by
    intro k h1 h2 h3
    rw [k2.block k (Nat.lt_of_lt_of_le h1 hgrow.size) (by simp; exact h2), hgrow.block k h1 (fun e => h3 e.symm)]
  have HM := hideM hm
  have K1 := hideM k1
  obtain ⟨y0, y1, y2, e0, e1, e2⟩ := hs1
  clear hown hgrow hat ho ho' k1 k2 k3 hr hs c0 c1 c2 f0 f1 f2 hm hne hpb
  go_wp2_with fail
  go_end0
  exact ⟨rfl, ⟨ao', cap', K1.out, HM.out.row, HM.out.fits, fun ad e => ⟨HAT.out ad e, (HM.out.lies ad e).1, (HM.out.lies ad e).2.1⟩⟩, HK.out, BW.out⟩
end Go.Proofs.YtlfabilmilkboaaGreatDoor
namespace Go.Proofs.YtlfabilmilkboaaGreatDoor
open Go.RowKit
attribute [local go_sem ↓] Go.wp_at_zero Go.wp_at_succ
set_option linter.unusedVariables false

/-- An inflater that was just made. -/
structure INew (w : World) (q p g : Nat) : Prop where
  c0 : w.cell? ⟨q, 0, none⟩ = some (.pointer (some ⟨p, 0, none⟩))
  c1 : w.cell? ⟨q, 1, none⟩ = some (inow q .nilFunc 7)
  num : ∀ k, isNum k → w.cell? ⟨q, k, none⟩ = some (.int .i64 0)
  c25 : w.cell? ⟨q, 25, none⟩ = some (.pointer none)
  c26 : w.cell? ⟨q, 26, none⟩ = some (.slice none 0 0)
  c28 : w.cell? ⟨q, 28, none⟩ = some (inow q .nilFunc 6)
  c29 : w.cell? ⟨q, 29, none⟩ = some (.pointer (some ⟨g, 0, none⟩))
  c30 : w.cell? ⟨q, 30, none⟩ = some (.slice none 0 0)
  c31 : w.cell? ⟨q, 31, none⟩ = some (.bool false)
  c32 : w.cell? ⟨q, 32, none⟩ = some (.int .i64 0)
  c33 : w.cell? ⟨q, 33, none⟩ = some (.pointer none)
  c34 : w.cell? ⟨q, 34, none⟩ = some (.pointer none)
  c35 : w.cell? ⟨q, 35, none⟩ = some (.int .i64 0)
  c36 : w.cell? ⟨q, 36, none⟩ = some (.int .i64 0)
  c37 : w.cell? ⟨q, 37, none⟩ = some (.int .i64 0)
  c38 : w.cell? ⟨q, 38, none⟩ = some .nilFunc
  f : ∀ k, w.frozen? ⟨q, k, none⟩ = false
theorem INew.same {w w' : World} {q p g : Nat} (h : INew w q p g) (hb : w'.heap[q]? = w.heap[q]?) : INew w' q p g := by
  have hc : ∀ o, w'.cell? ⟨q, o, none⟩ = w.cell? ⟨q, o, none⟩ := fun o => World.cell?_of_block (w := w) (a := ⟨q, o, none⟩) hb
  exact ⟨(hc 0).trans h.c0, (hc 1).trans h.c1, fun k hk => (hc k).trans (h.num k hk), (hc 25).trans h.c25, (hc 26).trans h.c26, (hc 28).trans h.c28, (hc 29).trans h.c29, (hc 30).trans h.c30, (hc 31).trans h.c31, (hc 32).trans h.c32, (hc 33).trans h.c33, (hc 34).trans h.c34, (hc 35).trans h.c35, (hc 36).trans h.c36, (hc 37).trans h.c37, (hc 38).trans h.c38, fun k => (World.frozen?_of_block (w := w) (a := ⟨q, k, none⟩) hb).trans (h.f k)⟩
/-- Where inflating begins. -/
def ic0 (t : List Int) : IC := ⟨7, lc0 0, t, [], false, 0, false, [], [], 0, 0, 0⟩
theorem INew.mem {w : World} {q p hB g s B : Nat} {zs t : List Int} (h : INew w q p g) (hne : q ≠ p) (hbq : hB ≠ q) (hgq : g ≠ q) (hgp : g ≠ p) (hgb : g ≠ hB) (hG : 2 ≤ B) (bq : B ≤ q) (bp : B ≤ p) (bg : B ≤ g) (bb : 2 ≤ hB) (hbw : hB < w.heap.size) (hs : 0 < s ∧ s ≤ 32768) (hr : Rd w p hB zs 0) (hT : RingT w g s t) (hGl : Glob w) : IMem q p hB g s B zs .nilFunc w (ic0 t) := by
  refine ⟨⟨hne, hbq, ⟨by omega, by omega, bb⟩, hr, h.c0, ⟨_, h.c1⟩, h.num, ⟨_, h.c25⟩, h.c28, h.f, ⟨w.heap.size, _, World.block_lt_of_cell? w _ h.c0, hr.lt, hbw, Nat.le_refl _, h.c26, ⟨rfl, .inl ⟨rfl, rfl⟩⟩, fun h1 => absurd h1 (by show ¬ (1 : Nat) ≤ 0; omega), fun h1 => absurd h1 (by show ¬ (4 : Nat) ≤ 0; omega)⟩, hGl.g0, hGl.g1⟩, ⟨fun h1 => absurd h1 (by show ¬ (7 : Nat) ≤ 6; omega), fun _ => rfl⟩, ⟨hG, bq, bp, bg⟩, fun _ => False, ?_, ?_⟩
  · refine ⟨⟨hgq, hgp, hgb, fun h => h, fun h => h, fun h => h, fun h => h⟩, fun k h => h.elim, hs, hT, h.c29, ⟨none, 0, h.c30, ⟨rfl, .inl ⟨rfl, rfl⟩⟩, fun k e => by cases e⟩, h.c31, h.c32, ⟨fun _ => h.c33, fun e => by cases e⟩, ⟨⟨_, h.c34⟩, fun e1 _ => absurd e1 (by show ¬ (12 : Nat) ≤ 7; omega)⟩, h.c35, h.c36, h.c37, h.c38⟩
  · intro v k e1 e2
    rw [h.c26] at e1
    cases e1
    cases e2
set_option maxRecDepth 100000 in
set_option maxHeartbeats 3200000 in
theorem newInflater_any (g : Nat) (w : World) :
    Calls Tryz.prog 16 #[.pointer (some ⟨g, 0, none⟩)] w fun e w' => ∃ q p ao cap, e = .returned (.pointer (some ⟨q, 0, none⟩)) ∧ INew w' q p g ∧ Src w' p (.slice ao 0 cap) 0 0 ∧ OwnsB 5 w.heap.size w' ao cap [] ∧ w.heap.size < p ∧ p < q ∧ q < w'.heap.size ∧ blk ao ≠ some p ∧ blk ao ≠ some q ∧ Below w.heap.size w w' := by
  have NM := hideM (newMachine_any w)
  go_enter Tryz.func16, Tryz.ntmps16
  go_wp2_with fail
  refine Calls.mono NM.out ?_
  rintro e w1 ⟨p, a1, c1, rfl, hs, ho, hp, hp2, hne, hb⟩
  have bq : Below w1.heap.size w1 (w1.alloc (.cells #[.pointer (some ⟨p, 0, none⟩), .nilFunc, .int .i64 0, .int .i64 0, .int .i64 0, .int .i64 0, .int .i64 0, .int .i64 0, .int .i64 0, .int .i64 0, .int .i64 0, .int .i64 0, .int .i64 0, .int .i64 0, .int .i64 0, .int .i64 0, .int .i64 0, .int .i64 0, .int .i64 0, .int .i64 0, .int .i64 0, .int .i64 0, .int .i64 0, .int .i64 0, .int .i64 0, .pointer none, .slice none 0 0, .int .i64 0, .nilFunc, .pointer (some ⟨g, 0, none⟩), .slice none 0 0, .bool false, .int .i64 0, .pointer none, .pointer none, .int .i64 0, .int .i64 0, .int .i64 0, .nilFunc] 60)) := (Below.refl _ _).alloc (Nat.le_refl _) _
  have HC : Hid (∀ i : Nat, (w1.alloc (.cells #[.pointer (some ⟨p, 0, none⟩), .nilFunc, .int .i64 0, .int .i64 0, .int .i64 0, .int .i64 0, .int .i64 0, .int .i64 0, .int .i64 0, .int .i64 0, .int .i64 0, .int .i64 0, .int .i64 0, .int .i64 0, .int .i64 0, .int .i64 0, .int .i64 0, .int .i64 0, .int .i64 0, .int .i64 0, .int .i64 0, .int .i64 0, .int .i64 0, .int .i64 0, .int .i64 0, .pointer none, .slice none 0 0, .int .i64 0, .nilFunc, .pointer (some ⟨g, 0, none⟩), .slice none 0 0, .bool false, .int .i64 0, .pointer none, .pointer none, .int .i64 0, .int .i64 0, .int .i64 0, .nilFunc] 60)).cell? ⟨w1.heap.size, i, none⟩ = (#[.pointer (some ⟨p, 0, none⟩), .nilFunc, .int .i64 0, .int .i64 0, .int .i64 0, .int .i64 0, .int .i64 0, .int .i64 0, .int .i64 0, .int .i64 0, .int .i64 0, .int .i64 0, .int .i64 0, .int .i64 0, .int .i64 0, .int .i64 0, .int .i64 0, .int .i64 0, .int .i64 0, .int .i64 0, .int .i64 0, .int .i64 0, .int .i64 0, .int .i64 0, .int .i64 0, .pointer none, .slice none 0 0, .int .i64 0, .nilFunc, .pointer (some ⟨g, 0, none⟩), .slice none 0 0, .bool false, .int .i64 0, .pointer none, .pointer none, .int .i64 0, .int .i64 0, .int .i64 0, .nilFunc] : Array Value)[i]?) := fun i => by simp [go_sem]
  have HZ : Hid (∀ i : Nat, (w1.alloc (.cells #[.pointer (some ⟨p, 0, none⟩), .nilFunc, .int .i64 0, .int .i64 0, .int .i64 0, .int .i64 0, .int .i64 0, .int .i64 0, .int .i64 0, .int .i64 0, .int .i64 0, .int .i64 0, .int .i64 0, .int .i64 0, .int .i64 0, .int .i64 0, .int .i64 0, .int .i64 0, .int .i64 0, .int .i64 0, .int .i64 0, .int .i64 0, .int .i64 0, .int .i64 0, .int .i64 0, .pointer none, .slice none 0 0, .int .i64 0, .nilFunc, .pointer (some ⟨g, 0, none⟩), .slice none 0 0, .bool false, .int .i64 0, .pointer none, .pointer none, .int .i64 0, .int .i64 0, .int .i64 0, .nilFunc] 60)).frozen? ⟨w1.heap.size, i, none⟩ = false) := fun i => by simp [go_sem]
  have zq : (w1.alloc (.cells #[.pointer (some ⟨p, 0, none⟩), .nilFunc, .int .i64 0, .int .i64 0, .int .i64 0, .int .i64 0, .int .i64 0, .int .i64 0, .int .i64 0, .int .i64 0, .int .i64 0, .int .i64 0, .int .i64 0, .int .i64 0, .int .i64 0, .int .i64 0, .int .i64 0, .int .i64 0, .int .i64 0, .int .i64 0, .int .i64 0, .int .i64 0, .int .i64 0, .int .i64 0, .int .i64 0, .pointer none, .slice none 0 0, .int .i64 0, .nilFunc, .pointer (some ⟨g, 0, none⟩), .slice none 0 0, .bool false, .int .i64 0, .pointer none, .pointer none, .int .i64 0, .int .i64 0, .int .i64 0, .nilFunc] 60)).heap.size = w1.heap.size + 1 := by simp
  have S1 := hideM (hs.grown (grownBy_of_below bq none) (by simp))
  have O1 := hideM (OwnsB.below ho bq)
  have B1 := hideM (hb.trans (bq.mono hb.size))
  have L1 : Hid (∀ k, blk a1 = some k → k < w1.heap.size) := by
    intro k e
    cases a1 with
    | none => cases e
    | some ad =>
      have := (ho.mine.lies ad rfl).2.1
      simp [blk] at e
      omega
  have HNE := hideM hne
  have hww : w.heap.size ≤ w1.heap.size := hb.size
  clear hs ho hb hne bq NM
  go_upto_region 2 with fail
  obtain ⟨q, hq⟩ : ∃ q, w1.heap.size = q := ⟨_, rfl⟩
  rw [hq] at HC HZ zq L1 hp2 hww ⊢
  generalize w1.alloc (.cells #[.pointer (some ⟨p, 0, none⟩), .nilFunc, .int .i64 0, .int .i64 0, .int .i64 0, .int .i64 0, .int .i64 0, .int .i64 0, .int .i64 0, .int .i64 0, .int .i64 0, .int .i64 0, .int .i64 0, .int .i64 0, .int .i64 0, .int .i64 0, .int .i64 0, .int .i64 0, .int .i64 0, .int .i64 0, .int .i64 0, .int .i64 0, .int .i64 0, .int .i64 0, .int .i64 0, .pointer none, .slice none 0 0, .int .i64 0, .nilFunc, .pointer (some ⟨g, 0, none⟩), .slice none 0 0, .bool false, .int .i64 0, .pointer none, .pointer none, .int .i64 0, .int .i64 0, .int .i64 0, .nilFunc] 60) = W1 at *
  clear hq
  have k1 : W1.cell? ⟨q, 1, none⟩ = some .nilFunc := HC.out 1
  have k28 : W1.cell? ⟨q, 28, none⟩ = some .nilFunc := HC.out 28
  have l1 := HZ.out 1
  have hqw : q < W1.heap.size := by omega
  have st1 := store_func W1 ⟨q, 1, none⟩ (Fn.func 29) #[.pointer (some ⟨q, 0, none⟩)] #[] _ k1 l1
  have k28' : (W1.setCell ⟨q, 1, none⟩ (.func (Fn.func 29) #[.pointer (some ⟨q, 0, none⟩)] #[])).cell? ⟨q, 28, none⟩ = some .nilFunc := (World.cell?_setCell_other _ _ _ _ (by simp)).trans k28
  have l28' : (W1.setCell ⟨q, 1, none⟩ (.func (Fn.func 29) #[.pointer (some ⟨q, 0, none⟩)] #[])).frozen? ⟨q, 28, none⟩ = false := by rw [World.frozen?_setCell]; exact HZ.out 28
  have st2 := store_func (W1.setCell ⟨q, 1, none⟩ (.func (Fn.func 29) #[.pointer (some ⟨q, 0, none⟩)] #[])) ⟨q, 28, none⟩ (Fn.func 30) #[.pointer (some ⟨q, 0, none⟩)] #[] _ k28' l28'
  have hqw2 : q < (W1.setCell ⟨q, 1, none⟩ (.func (Fn.func 29) #[.pointer (some ⟨q, 0, none⟩)] #[])).heap.size := by simpa using hqw
  have g1 := grownBy_setCell W1 ⟨q, 1, none⟩ (.func (Fn.func 29) #[.pointer (some ⟨q, 0, none⟩)] #[])
  have g2 := grownBy_setCell (W1.setCell ⟨q, 1, none⟩ (.func (Fn.func 29) #[.pointer (some ⟨q, 0, none⟩)] #[])) ⟨q, 28, none⟩ (.func (Fn.func 30) #[.pointer (some ⟨q, 0, none⟩)] #[])
  have hc : ∀ o v, o ≠ 1 → o ≠ 28 → (#[.pointer (some ⟨p, 0, none⟩), .nilFunc, .int .i64 0, .int .i64 0, .int .i64 0, .int .i64 0, .int .i64 0, .int .i64 0, .int .i64 0, .int .i64 0, .int .i64 0, .int .i64 0, .int .i64 0, .int .i64 0, .int .i64 0, .int .i64 0, .int .i64 0, .int .i64 0, .int .i64 0, .int .i64 0, .int .i64 0, .int .i64 0, .int .i64 0, .int .i64 0, .int .i64 0, .pointer none, .slice none 0 0, .int .i64 0, .nilFunc, .pointer (some ⟨g, 0, none⟩), .slice none 0 0, .bool false, .int .i64 0, .pointer none, .pointer none, .int .i64 0, .int .i64 0, .int .i64 0, .nilFunc] : Array Value)[o]? = some v → ((W1.setCell ⟨q, 1, none⟩ (.func (Fn.func 29) #[.pointer (some ⟨q, 0, none⟩)] #[])).setCell ⟨q, 28, none⟩ (.func (Fn.func 30) #[.pointer (some ⟨q, 0, none⟩)] #[])).cell? ⟨q, o, none⟩ = some v := by
    intro o v h1 h2 h3
    rw [World.cell?_setCell_other _ _ _ _ (by first | (simp; done) | (simp; omega)), World.cell?_setCell_other _ _ _ _ (by first | (simp; done) | (simp; omega)), HC.out o]
    exact h3
  have FIN : Hid (INew ((W1.setCell ⟨q, 1, none⟩ (.func (Fn.func 29) #[.pointer (some ⟨q, 0, none⟩)] #[])).setCell ⟨q, 28, none⟩ (.func (Fn.func 30) #[.pointer (some ⟨q, 0, none⟩)] #[])) q p g) := by
    refine ⟨hc 0 _ (by omega) (by omega) rfl, ?_, fun k hk => ?_, hc 25 _ (by omega) (by omega) rfl, hc 26 _ (by omega) (by omega) rfl, World.cell?_setCell_same _ _ _ k28', hc 29 _ (by omega) (by omega) rfl, hc 30 _ (by omega) (by omega) rfl, hc 31 _ (by omega) (by omega) rfl, hc 32 _ (by omega) (by omega) rfl, hc 33 _ (by omega) (by omega) rfl, hc 34 _ (by omega) (by omega) rfl, hc 35 _ (by omega) (by omega) rfl, hc 36 _ (by omega) (by omega) rfl, hc 37 _ (by omega) (by omega) rfl, hc 38 _ (by omega) (by omega) rfl, fun k => ?_⟩
    · rw [World.cell?_setCell_other _ _ _ _ (by simp)]
      exact World.cell?_setCell_same _ _ _ k1
    · have h3 : k = 2 ∨ k = 3 ∨ k = 4 ∨ k = 5 ∨ k = 6 ∨ k = 7 ∨ k = 8 ∨ k = 9 ∨ k = 10 ∨ k = 11 ∨ k = 12 ∨ k = 13 ∨ k = 14 ∨ k = 15 ∨ k = 16 ∨ k = 17 ∨ k = 18 ∨ k = 19 ∨ k = 20 ∨ k = 21 ∨ k = 22 ∨ k = 23 ∨ k = 24 ∨ k = 27 := by unfold isNum at hk; omega
      rcases h3 with rfl | rfl | rfl | rfl | rfl | rfl | rfl | rfl | rfl | rfl | rfl | rfl | rfl | rfl | rfl | rfl | rfl | rfl | rfl | rfl | rfl | rfl | rfl | rfl <;> exact hc _ _ (by omega) (by omega) rfl
    · rw [World.frozen?_setCell, World.frozen?_setCell]
      exact HZ.out k
  have S3 := hideM ((S1.out.grown g1 (by simp; omega)).grown g2 (by simp; omega))
  have O3 := hideM ((OwnsB.grown O1.out g1 (fun k e e2 => by have := L1.out k e2; simp at e; omega)).grown g2 (fun k e e2 => by have := L1.out k e2; simp at e; omega))
  have B3 := hideM ((B1.out.grown g1 (by omega) (fun k e => by simp at e; omega)).grown g2 (by have := g1.size; omega) (fun k e => by simp at e; omega))
  have z3 : q < ((W1.setCell ⟨q, 1, none⟩ (.func (Fn.func 29) #[.pointer (some ⟨q, 0, none⟩)] #[])).setCell ⟨q, 28, none⟩ (.func (Fn.func 30) #[.pointer (some ⟨q, 0, none⟩)] #[])).heap.size := by have := g1.size; have := g2.size; omega
  have HQ : Hid (blk a1 ≠ some q) := fun e => by have := L1.out q e; omega
  clear hc g1 g2 S1 O1 B1 L1 HC HZ k1 k28 l1 zq
  go_wp2_with fail
  go_ret
  exact ⟨q, p, a1, c1, rfl, FIN.out, S3.out, O3.out, by omega, hp2, z3, HNE.out, HQ.out, B3.out⟩
end Go.Proofs.YtlfabilmilkboaaGreatDoor
namespace Go.Proofs.YtlfabilmilkboaaGreatDoor
open Go.RowKit
attribute [local go_sem ↓] Go.wp_at_zero Go.wp_at_succ
set_option linter.unusedVariables false

/-- How the inflater ends. -/
def IEndsN (s : Nat) (zs : List Int) : Nat → IC → Int → IC → Prop
  | 0, _, _, _ => False
  | n + 1, c, k, cf => (¬ c.st ≤ 15 ∧ k = 1 ∧ cf = c) ∨ (c.st ≤ 15 ∧ istep0 s zs c = .inr (k, cf)) ∨ (c.st ≤ 15 ∧ ∃ c', istep0 s zs c = .inl c' ∧ IEndsN s zs n c' k cf)
def IEnds (s : Nat) (zs : List Int) (c : IC) (k : Int) (cf : IC) : Prop := ∃ n, IEndsN s zs n c k cf
theorem IEnds.fin {s : Nat} {zs : List Int} {c : IC} (h : ¬ c.st ≤ 15) : IEnds s zs c 1 c := ⟨1, .inl ⟨h, rfl, rfl⟩⟩
theorem IEnds.bad {s : Nat} {zs : List Int} {c cf : IC} {k : Int} (h : c.st ≤ 15) (hs : istep0 s zs c = .inr (k, cf)) : IEnds s zs c k cf := ⟨1, .inr (.inl ⟨h, hs⟩)⟩
theorem IEnds.more {s : Nat} {zs : List Int} {c c' cf : IC} {k : Int} (h : c.st ≤ 15) (hs : istep0 s zs c = .inl c') (h2 : IEnds s zs c' k cf) : IEnds s zs c k cf := by
  obtain ⟨n, hn⟩ := h2
  exact ⟨n + 1, .inr (.inr ⟨h, c', hs, hn⟩)⟩
theorem IEnds.cut {s : Nat} {zs : List Int} {c cf : IC} {k : Int} (h : IEnds s zs c k cf) : (¬ c.st ≤ 15 ∧ k = 1 ∧ cf = c) ∨ (c.st ≤ 15 ∧ istep0 s zs c = .inr (k, cf)) ∨ (c.st ≤ 15 ∧ ∃ c', istep0 s zs c = .inl c' ∧ IEnds s zs c' k cf) := by
  obtain ⟨n, hn⟩ := h
  cases n with
  | zero => exact hn.elim
  | succ n =>
    rcases hn with h | h | ⟨h1, c', h2, h3⟩
    · exact .inl h
    · exact .inr (.inl h)
    · exact .inr (.inr ⟨h1, c', h2, n, h3⟩)
theorem IEnds.step {s : Nat} {zs : List Int} {c c' cf : IC} {k : Int} (h : IEnds s zs c k cf) (h15 : c.st ≤ 15) (hs : istep0 s zs c = .inl c') : IEnds s zs c' k cf := by
  rcases h.cut with ⟨h1, _⟩ | ⟨_, h2⟩ | ⟨_, c2, h2, h3⟩
  · exact absurd h15 h1
  · rw [hs] at h2; cases h2
  · rw [hs] at h2; injection h2 with e; subst e; exact h3
theorem IEnds.stop {s : Nat} {zs : List Int} {c c2 cf : IC} {k k2 : Int} (h : IEnds s zs c k cf) (h15 : c.st ≤ 15) (hs : istep0 s zs c = .inr (k2, c2)) : k = k2 ∧ cf = c2 := by
  rcases h.cut with ⟨h1, _⟩ | ⟨_, h2⟩ | ⟨_, c3, h2, h3⟩
  · exact absurd h15 h1
  · rw [hs] at h2; injection h2 with e; injection e with e1 e2; exact ⟨e1.symm, e2.symm⟩
  · rw [hs] at h2; cases h2
theorem IEnds.at16 {s : Nat} {zs : List Int} {c cf : IC} {k : Int} (h : IEnds s zs c k cf) (h16 : c.st = 16) : k = 1 ∧ cf = c := by
  rcases h.cut with ⟨_, h2⟩ | ⟨h2, _⟩ | ⟨h2, _⟩
  · exact h2
  · omega
  · omega
theorem istep0_no1 {s : Nat} {zs : List Int} {c cf : IC} {k : Int} (hs : istep0 s zs c = .inr (k, cf)) : k = 2 ∨ k = 3 ∨ k = 6 := by
  unfold istep0 at hs
  by_cases h5 : c.st ≤ 5
  · rw [if_pos h5] at hs
    cases hl : lstep0 zs c.lc with
    | inl l => rw [hl] at hs; cases hs
    | inr x =>
      rw [hl] at hs
      obtain ⟨k2, l⟩ := x
      injection hs with e
      injection e with e1 e2
      dsimp only at e1
      subst e1
      rcases lstep0_no hl with h | h
      · exact .inl h
      · exact .inr (.inl h)
  rw [if_neg h5] at hs
  repeat' (split at hs)
  all_goals (try unfold dynamicCodesS at hs)
  all_goals (try unfold blockHeadS at hs)
  all_goals (try unfold blockEndS at hs)
  all_goals (try unfold storedHeadS at hs)
  all_goals (try unfold storedBytesS at hs)
  all_goals (try unfold fixedCodesS at hs)
  all_goals (try unfold literalS at hs)
  all_goals (try unfold copyLengthS at hs)
  all_goals (try unfold distanceS at hs)
  all_goals (try unfold copyDistanceS at hs)
  all_goals repeat' (split at hs)
  all_goals first | (cases hs; done) | (injection hs with e; injection e with e1 e2; omega)
theorem istep0_out {s : Nat} {zs : List Int} {c cf : IC} {k : Int} (hs : istep0 s zs c = .inr (k, cf)) : cf.out = c.out := by
  unfold istep0 at hs
  by_cases h5 : c.st ≤ 5
  · rw [if_pos h5] at hs
    cases hl : lstep0 zs c.lc with
    | inl l => rw [hl] at hs; cases hs
    | inr x =>
      rw [hl] at hs
      obtain ⟨k2, l⟩ := x
      injection hs with e
      injection e with e1 e2
      rw [← e2]
  rw [if_neg h5] at hs
  repeat' (split at hs)
  all_goals (try unfold dynamicCodesS at hs)
  all_goals (try unfold blockHeadS at hs)
  all_goals (try unfold blockEndS at hs)
  all_goals (try unfold storedHeadS at hs)
  all_goals (try unfold storedBytesS at hs)
  all_goals (try unfold fixedCodesS at hs)
  all_goals (try unfold literalS at hs)
  all_goals (try unfold copyLengthS at hs)
  all_goals (try unfold distanceS at hs)
  all_goals (try unfold copyDistanceS at hs)
  all_goals repeat' (split at hs)
  all_goals first | (cases hs; done) | (injection hs with e; injection e with e1 e2; rw [← e2])
theorem IEnds.of_ends {q s : Nat} {zs : List Int} {hzl : zs.length ≤ 65536} {c cf : IW zs} {k : Int} (h : Ends (inowO q) (istep s zs hzl) c k cf) : ∃ c2, IEnds s zs c.1 k c2 ∧ cf.1.out = c2.out ∧ (k = 1 → cf.1 = c2) := by
  refine Ends.ind (X := fun c k cf => ∃ c2, IEnds s zs c.1 k c2 ∧ cf.1.out = c2.out ∧ (k = 1 → cf.1 = c2)) ?_ ?_ ?_ h
  · intro c h1
    refine ⟨c.1, .fin ?_, rfl, fun _ => rfl⟩
    intro h5
    unfold inowO at h1
    rw [if_pos h5] at h1
    cases h1
  · intro c cf k h1 hs
    have h5 : c.1.st ≤ 15 := by
      rcases Nat.lt_or_ge 15 c.1.st with h | h
      · exfalso; apply h1; unfold inowO; rw [if_neg (by omega)]
      · exact h
    obtain ⟨c2, e1, e2, e3⟩ := istep_inr h5 hs
    refine ⟨c2, .bad h5 e1, ?_, fun e => ?_⟩
    · by_cases hk : k = 2
      · subst hk
        rw [e2 rfl, istep0_two (c.2 h5) e1]
      · rw [e3 hk]
        rfl
    · have := istep0_no1 e1
      omega
  · intro c c' cf k h1 hs ih
    have h5 : c.1.st ≤ 15 := by
      rcases Nat.lt_or_ge 15 c.1.st with h | h
      · exfalso; apply h1; unfold inowO; rw [if_neg (by omega)]
      · exact h
    obtain ⟨c2, e1, e2⟩ := ih
    exact ⟨c2, .more h5 (istep_inl h5 hs) e1, e2⟩
/-- The numbers stay well to the end. -/
theorem IEnds.well {s : Nat} {zs : List Int} {c cf : IC} {k : Int} (hzl : zs.length ≤ 65536) (h : IEnds s zs c k cf) (hW : IWell zs c) : cf.out.length ≤ 100000 ∧ (k = 1 → cf.lc.i ≤ 8 * zs.length) := by
  obtain ⟨n, hn⟩ := h
  induction n generalizing c with
  | zero => exact hn.elim
  | succ n ih =>
    rcases hn with ⟨h1, rfl, rfl⟩ | ⟨h1, hs⟩ | ⟨h1, c', hs, h3⟩
    · exact ⟨hW.out, fun _ => hW.le⟩
    · refine ⟨?_, fun e => by have := istep0_no1 hs; omega⟩
      rw [istep0_out hs]
      exact hW.out
    · exact ih (istep0_ok hW h1 hzl hs).1 h3
end Go.Proofs.YtlfabilmilkboaaGreatDoor
