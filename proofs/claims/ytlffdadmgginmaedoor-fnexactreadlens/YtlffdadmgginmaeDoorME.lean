import Derived.Deep.RegionLawGrows
import Derived.Test.YtlffdadmgginmaeDoorProg
import Derived.WalkKit
import Derived.WalkSpells
import Derived.WalkLawsBesides
import Derived.BigQuiet
import Derived.Test.YtlffdadmgginmaeDoorRows
import Derived.Test.YtlffdadmgginmaeDoorCards
import Derived.Test.YtlffdadmgginmaeDoorTie
import Derived.ProofKit
import Derived.OpenShut
import Derived.OpenVars
import Derived.ShutString
import Derived.ChangeOld
import Derived.ChangeVars
import Derived.Below
import Derived.LaidLaws
import Derived.LaidHandle
import Derived.LaidMore
import Derived.SevenTiedAt
import Derived.Stop.Joined
import Derived.Lib.SmallJoins
import Derived.Test.YtlffdadmgginmaeDoorMA
import Derived.Test.YtlffdadmgginmaeDoorMB
import Derived.Test.YtlffdadmgginmaeDoorMC
import Derived.Test.YtlffdadmgginmaeDoorMD
namespace Go.Proofs.YtlffdadmgginmaeDoor
open Go.RowKit
set_option linter.unusedVariables false

theorem addS_six {c c' : LC} {v : Int} {t : Nat} (hs : addS c v t = .inl c') (h6 : c'.st = 6) : (c'.lens.length : Int) = c'.f 2 + c'.f 3 := by
  unfold addS at hs
  repeat' (split at hs)
  all_goals first | (cases hs; done) | (injection hs with hs; subst hs; dsimp only at h6 ⊢; first | (exfalso; omega) | (rw [List.length_append, List.length_replicate]; omega))
theorem lstep0_six {zs : List Int} {c c' : LC} (h5 : c.st ≤ 5) (hs : lstep0 zs c = .inl c') (h6 : c'.st = 6) : (c'.lens.length : Int) = c'.f 2 + c'.f 3 := by
  unfold lstep0 at hs
  split at hs
  · unfold litCountS at hs
    repeat' (split at hs)
    all_goals first | (cases hs; done) | (injection hs with hs; subst hs; cases h6)
  · split at hs
    · unfold distCountS at hs
      repeat' (split at hs)
      all_goals first | (cases hs; done) | (injection hs with hs; subst hs; cases h6)
    · split at hs
      · unfold codeCountS at hs
        repeat' (split at hs)
        all_goals first | (cases hs; done) | (injection hs with hs; subst hs; cases h6)
      · split at hs
        · unfold codeLenS at hs
          repeat' (split at hs)
          all_goals first | (cases hs; done) | (injection hs with hs; subst hs; cases h6)
        · split at hs
          · unfold nextLenS at hs
            repeat' (split at hs)
            all_goals first | exact addS_six hs h6 | (cases hs; done) | (injection hs with hs; subst hs; cases h6)
          · unfold repeatS at hs
            repeat' (split at hs)
            all_goals first | exact addS_six hs h6 | (cases hs; done) | (injection hs with hs; subst hs; cases h6)
/-- A machine that has ended well has as many lengths as it asked for. -/
theorem LEnds.full {zs : List Int} {c cf : LC} {k : Int} (h : LEnds zs c k cf) (hw : LWell c) (hc : c.st ≤ 5 ∨ (c.lens.length : Int) = c.f 2 + c.f 3) (hk : k = 1) : (cf.lens.length : Int) = cf.f 2 + cf.f 3 := by
  obtain ⟨n, hn⟩ := h
  induction n generalizing c with
  | zero => exact hn.elim
  | succ n ih =>
    rcases hn with ⟨h1, _, rfl⟩ | ⟨h1, hs⟩ | ⟨h1, c', hs, h3⟩
    · rcases hc with h | h
      · exact absurd h h1
      · exact h
    · exfalso
      rcases lstep0_no hs with h | h <;> omega
    · have hw' := lstep0_well hw h1 hs
      refine ih hw' ?_ h3
      by_cases h5 : c'.st ≤ 5
      · exact .inl h5
      · exact .inr (lstep0_six h1 hs (by have := hw'.s6; omega))
theorem LEnds.kinds {zs : List Int} {c cf : LC} {k : Int} (h : LEnds zs c k cf) : k = 1 ∨ k = 2 ∨ k = 3 := by
  obtain ⟨n, hn⟩ := h
  induction n generalizing c with
  | zero => exact hn.elim
  | succ n ih =>
    rcases hn with ⟨_, h, _⟩ | ⟨_, hs⟩ | ⟨_, c', _, h3⟩
    · exact .inl h
    · exact .inr (lstep0_no hs)
    · exact ih h3
theorem addS_i {c c' : LC} {v : Int} {t : Nat} (hs : addS c v t = .inl c') : c'.i = c.i := by
  unfold addS at hs
  repeat' (split at hs)
  all_goals first | (cases hs; done) | (injection hs with hs; subst hs; rfl)
theorem lstep0_i {zs : List Int} {c c' : LC} (h5 : c.st ≤ 5) (hi : c.i ≤ 8 * zs.length) (hs : lstep0 zs c = .inl c') : c'.i ≤ 8 * zs.length := by
  unfold lstep0 at hs
  split at hs
  · unfold litCountS at hs
    repeat' (split at hs)
    all_goals first | (cases hs; done) | (injection hs with hs; subst hs; dsimp only; omega)
  · split at hs
    · unfold distCountS at hs
      repeat' (split at hs)
      all_goals first | (cases hs; done) | (injection hs with hs; subst hs; dsimp only; omega)
    · split at hs
      · unfold codeCountS at hs
        repeat' (split at hs)
        all_goals first | (cases hs; done) | (injection hs with hs; subst hs; dsimp only; omega)
      · split at hs
        · unfold codeLenS at hs
          repeat' (split at hs)
          all_goals first | (cases hs; done) | (injection hs with hs; subst hs; dsimp only; omega)
        · split at hs
          · have hm : Nat.min (8 * zs.length - c.i) 15 ≤ 8 * zs.length - c.i := Nat.min_le_left _ _
            generalize Nat.min (8 * zs.length - c.i) 15 = n at *
            unfold nextLenS at hs
            split at hs
            · rename_i h1
              have h2 := (nx3_sym h1).2
              repeat' (split at hs)
              all_goals first | (have := addS_i hs; dsimp only at this; omega) | (cases hs; done) | (injection hs with hs; subst hs; dsimp only; omega)
            · split at hs <;> cases hs
          · unfold repeatS at hs
            repeat' (split at hs)
            all_goals first | (have := addS_i hs; dsimp only at this; omega) | (cases hs; done) | (injection hs with hs; subst hs; dsimp only; omega)
theorem LEnds.le {zs : List Int} {c cf : LC} (h : LEnds zs c 1 cf) (hw : LWell c) (hi : c.i ≤ 8 * zs.length) : cf.i ≤ 8 * zs.length := by
  obtain ⟨n, hn⟩ := h
  induction n generalizing c with
  | zero => exact hn.elim
  | succ n ih =>
    rcases hn with ⟨_, _, rfl⟩ | ⟨_, hs⟩ | ⟨h1, c', hs, h3⟩
    · exact hi
    · exfalso
      rcases lstep0_no hs with h | h <;> omega
    · exact ih (lstep0_well hw h1 hs) (lstep0_i h1 hi hs) h3
/-- Where ReadLens begins. -/
def lc0 (i : Nat) : LC := ⟨0, i, fun _ => 0, [], []⟩
theorem lc0_ends (zs : List Int) (i : Nat) : ∃ k cf, LEnds zs (lc0 i) k cf := LEnds.ex (lmu (lc0 i) + 1) (lc0 i) (LWell.none _ rfl) (Nat.lt_succ_self _)
theorem lc0_end {zs : List Int} {i : Nat} {cf : LC} (h : LEnds zs (lc0 i) 1 cf) : LWell cf ∧ cf.st = 6 ∧ (cf.lens.length : Int) = cf.f 2 + cf.f 3 := by
  have hw := LWell.none (lc0 i) rfl
  rcases h.good hw with ⟨_, h1, h2⟩ | h1
  · exact ⟨h1, h2, h.full hw (.inl (by show (0 : Nat) ≤ 5; omega)) rfl⟩
  · exact absurd rfl h1
/-- The places only go on. -/
def lRes (i : Nat) (k : Int) (cf : LC) : Int × List Int × List Int × Int := if k = 1 then (1, cf.lens.take (cf.f 2).toNat, cf.lens.drop (cf.f 2).toNat, (cf.i : Int) - (i : Int)) else (k, [], [], 0)
theorem lRes_len {zs : List Int} {i : Nat} {k : Int} {cf : LC} (h : LEnds zs (lc0 i) k cf) : (lRes i k cf).2.1.length ≤ 400 ∧ (lRes i k cf).2.2.1.length ≤ 400 := by
  unfold lRes
  by_cases hk : k = 1
  · subst hk
    rw [if_pos rfl]
    obtain ⟨h1, h2, h3⟩ := lc0_end h
    have h4 := h1.lit (by omega)
    have h5 := h1.dist (by omega)
    dsimp only
    rw [List.length_take, List.length_drop]
    constructor <;> omega
  · rw [if_neg hk]
    simp
end Go.Proofs.YtlffdadmgginmaeDoor
namespace Go.Proofs.YtlffdadmgginmaeDoor
open Go.RowKit
attribute [local go_sem ↓] Go.wp_at_zero Go.wp_at_succ

/-! What BitsFeed makes of a reader. -/
def fdZ (zs cs : List Int) (a u : Int) : List Int := if vld zs.length a u then (if zs.length + cs.length ≤ 1000000 then zs ++ cs else zs) else []
def fdA (zs : List Int) (a u : Int) : Int := if vld zs.length a u then a else 0
def fdU (zs : List Int) (a u : Int) : Int := if vld zs.length a u then u else 0
theorem fdZ_len (zs cs : List Int) (a u : Int) : (fdZ zs cs a u).length ≤ zs.length + cs.length := by
  unfold fdZ
  split
  · split
    · simp
    · omega
  · simp

theorem resB_nil (B : Nat) (w : World) : ResB B w (.returned (.agg #[.slice none 0 0, .int .i64 0, .int .i64 0])) [] 0 0 := ⟨none, 0, rfl, Mine.nothing _ _⟩

theorem src_set0 {w : World} {p : Nat} {v : Value} {a u : Int} (h : Src w p v a u) (v' : Value) :
    Src (w.setCell ⟨p, 0, none⟩ v') p v' a u ∧ w.grownBy (w.setCell ⟨p, 0, none⟩ v') (some p) ∧ (w.setCell ⟨p, 0, none⟩ v').heap.size = w.heap.size := by
  obtain ⟨c0, c1, c2, f0, f1, f2⟩ := h
  refine ⟨⟨?_, ?_, ?_, ?_, ?_, ?_⟩, grownBy_setCell w ⟨p, 0, none⟩ _, by simp⟩
  · exact World.cell?_setCell_same _ _ _ c0
  · rw [World.cell?_setCell_other _ _ _ _ (by simp)]; exact c1
  · rw [World.cell?_setCell_other _ _ _ _ (by simp)]; exact c2
  · simp [World.frozen?_setCell, f0]
  · simp [World.frozen?_setCell, f1]
  · simp [World.frozen?_setCell, f2]

set_option maxHeartbeats 3200000 in
/-- (*source).feed. -/
theorem feed_any (p : Nat) (ao co : Option Addr) (cap cc : Nat) (zs cs : List Int) (a u : Int) (B : Nat) (w : World) (hs : Src w p (.slice ao zs.length cap) a u) (ho : OwnsB 5 B w ao cap zs) (hB : B ≤ w.heap.size) (hpb : blk ao ≠ some p) (hr : Row w co cs) (hnil : co = none → cs.length = 0 ∧ cc = 0)
    (hl : zs.length ≤ 1000000) (hc : cs.length ≤ 140737488355328) :
    Calls Tryd.prog 22 #[.pointer (some ⟨p, 0, none⟩), .slice co cs.length cc] w fun e w' => e = .returned (.tuple #[]) ∧ ∃ ao' cap',
      Src w' p (.slice ao' (if zs.length + cs.length ≤ 1000000 then zs ++ cs else zs).length cap') a u ∧ Mine B w' ao' cap' (if zs.length + cs.length ≤ 1000000 then zs ++ cs else zs) ∧
      ∃ wm, w.grownBy wm (blk ao) ∧ wm.grownBy w' (some p) := by
  obtain ⟨i0, hi, hz0, hz1, hz2⟩ := info_parts Tryd.info_u8s
  have HN : Hid (co = none → cs.length = 0 ∧ cc = 0) := hnil
  clear hnil
  have hp : p < w.heap.size := World.block_lt_of_cell? w _ hs.1
  by_cases h : zs.length + cs.length ≤ 1000000
  · rw [if_pos h]
    have hd : decide ((zs.length : Int) + (cs.length : Int) ≤ 1000000) = true := decide_eq_true (by omega)
    have hs' := hs
    obtain ⟨c0, c1, c2, f0, f1, f2⟩ := hs'
    go_enter Tryd.func22, Tryd.ntmps22
    go_wp2_with (at_builtin; refine wpList_append_row _ rfl _ _ 22 rfl B 5 i0 (.int .u8 0) 1 Tryd.underlying22 hi hz0 hz1 hz2 rfl (.slice ao zs.length cap) zs.length (zs.map (Value.int .u8)) rfl ho co cc cs rfl hr HN.out (by unfold maxLen; omega) (by omega) hB ?_)
    intro v' w1 hown hgrow hat
    rw [← List.map_append] at hown
    obtain ⟨ao', cap', e', ho'⟩ := OwnsB.of hown
    subst e'
    have hg : w.grownBy w1 (blk ao) := by
      have : (Value.slice ao zs.length cap).ownBlock = blk ao := by cases ao <;> rfl
      rw [this] at hgrow
      exact hgrow
    have hs1 := hs.grown hg (fun e => hpb e.symm)
    obtain ⟨k1, k2, k3⟩ := src_set0 hs1 (.slice ao' (zs ++ cs).length cap')
    have hm := ho'.mine.grown k2 (by
      intro k e; simp at e; subst e
      intro hb
      have hown' : (Value.slice ao' (zs ++ cs).length cap').ownBlock = blk ao' := by cases ao' <;> rfl
      have hown2 : (Value.slice ao zs.length cap).ownBlock = blk ao := by cases ao <;> rfl
      rw [hown', hown2] at hat
      rcases hat with h1 | h1
      · rw [h1] at hb; exact hpb hb
      · rw [h1] at hb; simp at hb; omega)
    obtain ⟨y0, y1, y2, e0, e1, e2⟩ := hs1
    clear hown hgrow hat ho ho' k3 hr hs c0 c1 c2 f0 f1 f2
    generalize hzc : zs ++ cs = zc at *
    have HZC : Hid (zs ++ cs = zc) := hzc
    clear hzc
    go_wp2_with fail
    go_end0
    refine ⟨rfl, ao', cap', ?_⟩
    rw [HZC.out]
    exact ⟨k1, hm, w1, hg, k2⟩
  · rw [if_neg h]
    have hd : decide ((zs.length : Int) + (cs.length : Int) ≤ 1000000) = false := decide_eq_false (by omega)
    have hs' := hs
    obtain ⟨c0, c1, c2, f0, f1, f2⟩ := hs'
    have hm := ho.mine
    clear ho hr
    go_enter Tryd.func22, Tryd.ntmps22
    go_wp2_with fail
    go_end0
    exact ⟨rfl, ao, cap, hs, hm, w, World.grownBy.refl _ _, World.grownBy.refl _ _⟩

end Go.Proofs.YtlffdadmgginmaeDoor
namespace Go.Proofs.YtlffdadmgginmaeDoor
open Go.RowKit
attribute [local go_sem ↓] Go.wp_at_zero Go.wp_at_succ
set_option linter.unusedVariables false

theorem OwnsB.based {e B : Nat} {w : World} {ao : Option Addr} {cap : Nat} {zs : List Int} (h : OwnsB e B w ao cap zs) : ∀ g, blk ao = some g → B ≤ g := by
  intro g e
  rcases h.2 with ⟨h1, _⟩ | ⟨g', cap', cur, h1, h2, _⟩
  · simp only [Value.slice.injEq] at h1
    rw [h1.1] at e
    cases e
  · simp only [Value.slice.injEq] at h1
    rw [h1.1] at e
    simp [blk] at e
    omega
theorem eql_nil64 (ad : Addr) (n c : Nat) (w : World) : Sem.run Tryd.prog (binOp BinOp.eql 23 (.slice (some ad) n c) (.slice none 0 0)) w = .ok (.bool false) w := by kernel_rfl
set_option maxRecDepth 100000 in
theorem clone_any (g o cap : Nat) (ys : List Int) (w : World) (hr : Row64 w (some ⟨g, o, none⟩) ys) (hn : ys.length ≤ 1000) :
    Calls Tryd.prog 27 #[.slice (some ⟨g, o, none⟩) ys.length cap] w fun e w' => ∃ a c, e = .returned (.slice a ys.length c) ∧ OwnsI w.heap.size w' a c ys ∧ Below w.heap.size w w' := by
  obtain ⟨i0, hi0, hz0, hz1, hz2⟩ := info_parts Tryd.info_i64d
  have HO := hideM (ownI0 w w.heap.size (Nat.le_refl _))
  have b1 : Below w.heap.size w (w.alloc (.cells #[] 2)) := (Below.refl _ _).alloc (Nat.le_refl _) _
  have HB := hideM b1
  have HR : Hid (∀ j u, (ys.map (Value.int .i64))[j]? = some u → (w.alloc (.cells #[] 2)).cell? ((⟨g, o, none⟩ : Addr).add j) = some u) := by
    intro j u hu
    rw [List.getElem?_map, Option.map_eq_some_iff] at hu
    obtain ⟨x, hx, rfl⟩ := hu
    obtain ⟨hj, hx⟩ := List.getElem?_eq_some_iff.1 hx
    obtain ⟨b, off, e, hc⟩ := (hr.below b1) j hj
    cases e
    rw [Addr.add_lit, hc, List.getD_eq_getElem?_getD, List.getElem?_eq_getElem hj, hx]
    rfl
  clear hr b1
  have heq := eql_nil64
  go_enter Tryd.func27, Tryd.ntmps27
  go_wp2_with (at_builtin; refine wpList_append_cells2 _ rfl _ _ 23 rfl w.heap.size 2 i0 (.int .i64 0) 1 8 Tryd.underlying23 hi0 hz0 hz1 hz2 rfl (by decide) (.slice (some ⟨w.heap.size, 0, none⟩) 0 0) 0 [] rfl HO.out ⟨g, o, none⟩ ys.length cap (ys.map (Value.int .i64)) rfl (by simp) HR.out (by intro u hu; obtain ⟨x, _, rfl⟩ := List.mem_map.1 hu; rfl) (by unfold maxLen; omega) (by omega) (by simp) ?_)
  intro v' w1 hown hgrow hat
  obtain ⟨a, c, e', ho'⟩ := OwnsI.of hown
  have B2 := hideM (HB.out.grown hgrow HB.out.size (fun k e => by simp [Value.ownBlock] at e; omega))
  have O2 := hideM ho'
  subst e'
  clear hown hgrow hat ho'
  go_wp2_with fail
  go_ret
  exact ⟨a, c, rfl, O2.out, B2.out⟩
theorem mach_set (w : World) (g : Nat) (v0 v1 x0 x1 : Value) (h0 : w.cell? ⟨g, 0, none⟩ = some v0) (h1 : w.cell? ⟨g, 1, none⟩ = some v1) :
    ((w.setCell ⟨g, 0, none⟩ x0).setCell ⟨g, 1, none⟩ x1).cell? ⟨g, 0, none⟩ = some x0 ∧ ((w.setCell ⟨g, 0, none⟩ x0).setCell ⟨g, 1, none⟩ x1).cell? ⟨g, 1, none⟩ = some x1 ∧ w.grownBy ((w.setCell ⟨g, 0, none⟩ x0).setCell ⟨g, 1, none⟩ x1) (some g) := by
  have hn : ∀ (W : World) (x : Value) (i j : Nat), i ≠ j → (W.setCell ⟨g, i, none⟩ x).cell? ⟨g, j, none⟩ = W.cell? ⟨g, j, none⟩ := fun W x i j hij => World.cell?_setCell_other _ _ _ _ (by first | (simp; done) | (simp; omega))
  refine ⟨?_, ?_, grownBy_trans (grownBy_setCell w ⟨g, 0, none⟩ x0) (grownBy_setCell _ ⟨g, 1, none⟩ x1)⟩
  · rw [hn _ _ 1 0 (by decide), World.cell?_setCell_same _ _ _ h0]
  · exact World.cell?_setCell_same _ _ _ ((hn _ _ 0 1 (by decide)).trans h1)
set_option maxRecDepth 100000 in
theorem newMachine_any (w : World) :
    Calls Tryd.prog 21 #[] w fun e w' => ∃ p ao cap, e = .returned (.agg #[.pointer (some ⟨p, 0, none⟩), .nilFunc]) ∧ Src w' p (.slice ao 0 cap) 0 0 ∧ OwnsB 5 w.heap.size w' ao cap [] ∧ w.heap.size < p ∧ p < w'.heap.size ∧ blk ao ≠ some p ∧ Below w.heap.size w w' := by
  have B0 : Hid (Below w.heap.size w (w.alloc (.cells #[.pointer none, .nilFunc] 53))) := (Below.refl _ _).alloc (Nat.le_refl _) _
  have HS := hideM (openSource_owns none 0 [] 0 0 (w.alloc (.cells #[.pointer none, .nilFunc] 53)) (Row.nil _ _) (fun _ => rfl) (by simp))
  go_enter Tryd.func21, Tryd.ntmps21
  go_wp2_with fail
  refine Calls.mono HS.out ?_
  rintro e w1 ⟨p, ao, cap, rfl, hs, ho, hp, hp2, hne, hb⟩
  have hz : (w.alloc (.cells #[.pointer none, .nilFunc] 53)).heap.size = w.heap.size + 1 := by simp
  rw [hz] at ho hp hb
  have c0 : w1.cell? ⟨w.heap.size, 0, none⟩ = some (.pointer none) := by rw [hb.cell (p := ⟨w.heap.size, 0, none⟩) (by simp)]; simp [go_sem]
  have c1 : w1.cell? ⟨w.heap.size, 1, none⟩ = some .nilFunc := by rw [hb.cell (p := ⟨w.heap.size, 1, none⟩) (by simp)]; simp [go_sem]
  have f0 : w1.frozen? ⟨w.heap.size, 0, none⟩ = false := by rw [hb.frozen (p := ⟨w.heap.size, 0, none⟩) (by simp)]; simp [go_sem]
  have f1 : w1.frozen? ⟨w.heap.size, 1, none⟩ = false := by rw [hb.frozen (p := ⟨w.heap.size, 1, none⟩) (by simp)]; simp [go_sem]
  obtain ⟨y0, y1, hg⟩ := mach_set w1 w.heap.size _ _ (.pointer (some ⟨p, 0, none⟩)) .nilFunc c0 c1
  have hz1 : w.heap.size < w1.heap.size := by have := hb.size; omega
  have hst := store_nilf (w1.setCell ⟨w.heap.size, 0, none⟩ (.pointer (some ⟨p, 0, none⟩))) ⟨w.heap.size, 1, none⟩ .nilFunc ((World.cell?_setCell_other _ _ _ _ (by simp)).trans c1) (by rw [World.frozen?_setCell]; exact f1)
  have Y := hideM (And.intro y0 y1)
  have S2 := hideM (hs.grown hg (by simp; omega))
  have O2 := hideM (OwnsB.grown (OwnsB.mono ho (Nat.le_succ _)) hg (fun k e hk => by have := OwnsB.based ho k hk; simp at e; omega))
  have B2 := hideM ((B0.out.trans (hb.mono (by omega))).grown hg (by omega) (fun k e => by simp at e; omega))
  have Z2 : Hid (p < ((w1.setCell ⟨w.heap.size, 0, none⟩ (.pointer (some ⟨p, 0, none⟩))).setCell ⟨w.heap.size, 1, none⟩ .nilFunc).heap.size) := Nat.lt_of_lt_of_le hp2 hg.size
  have HP := hideM (And.intro hp hne)
  clear hs ho hp hne hb hg y0 y1 B0 HS hz hp2
  go_wp2_with fail
  exact bodyPost_ret (v := .agg #[.pointer (some ⟨p, 0, none⟩), .nilFunc]) (by simp [results, Tryd.results21, go_sem, Y.out.1, Y.out.2]) rfl ⟨p, ao, cap, rfl, S2.out, O2.out, by have := HP.out.1; omega, Z2.out, HP.out.2, B2.out⟩
set_option maxRecDepth 100000 in
set_option maxHeartbeats 3200000 in
/-- A source that is empty is fed. -/
theorem feed_new (p : Nat) (ao co : Option Addr) (cap cc : Nat) (cs : List Int) (B : Nat) (w : World) (hs : Src w p (.slice ao 0 cap) 0 0) (ho : OwnsB 5 B w ao cap []) (hB : B ≤ w.heap.size) (hBp : B ≤ p) (hpb : blk ao ≠ some p) (hr : Row w co cs) (hnil : co = none → cs.length = 0 ∧ cc = 0) (hc : cs.length ≤ 65536) :
    Calls Tryd.prog 22 #[.pointer (some ⟨p, 0, none⟩), .slice co cs.length cc] w fun e w' => e = .returned (.tuple #[]) ∧ (∃ ao' cap', Src w' p (.slice ao' cs.length cap') 0 0 ∧ Row w' ao' cs ∧ cs.length ≤ cap' ∧ ∀ ad, ao' = some ad → (blk ao = some ad.block ∨ w.heap.size ≤ ad.block) ∧ B ≤ ad.block ∧ ad.block < w'.heap.size) ∧ (∀ k, k < w.heap.size → k ≠ p → blk ao ≠ some k → w'.heap[k]? = w.heap[k]?) ∧ Below B w w' := by
  obtain ⟨i0, hi, hz0, hz1, hz2⟩ := info_parts Tryd.info_u8s
  have HN : Hid (co = none → cs.length = 0 ∧ cc = 0) := hnil
  clear hnil
  have hp : p < w.heap.size := World.block_lt_of_cell? w _ hs.1
  have hd : decide ((cs.length : Int) ≤ 1000000) = true := decide_eq_true (by omega)
  have hd2 : decide ((0 : Int) + (cs.length : Int) ≤ 1000000) = true := decide_eq_true (by omega)
  have hs' := hs
  obtain ⟨c0, c1, c2, f0, f1, f2⟩ := hs'
  have HO := hideM ho
  have HPB := hideM hpb
  go_enter Tryd.func22, Tryd.ntmps22
  go_wp2_with (at_builtin; refine wpList_append_row _ rfl _ _ 22 rfl B 5 i0 (.int .u8 0) 1 Tryd.underlying22 hi hz0 hz1 hz2 rfl (.slice ao 0 cap) 0 [] rfl HO.out co cc cs rfl hr HN.out (by unfold maxLen; omega) (by omega) hB ?_)
  intro v' w1 hown hgrow hat
  obtain ⟨ao', cap', e', ho'⟩ := OwnsB.of hown
  subst e'
  have hown' : (Value.slice ao' cs.length cap').ownBlock = blk ao' := by cases ao' <;> rfl
  have hown2 : (Value.slice ao 0 cap).ownBlock = blk ao := by cases ao <;> rfl
  rw [hown', hown2] at hat
  rw [hown2] at hgrow
  have hs1 := hs.grown hgrow (fun e => hpb e.symm)
  obtain ⟨k1, k2, k3⟩ := src_set0 hs1 (.slice ao' cs.length cap')
  have hne : blk ao' ≠ some p := by
    rcases hat with h1 | h1
    · rw [h1]; exact hpb
    · rw [h1]; simp; omega
  have hm := ho'.mine.grown k2 (by intro k e; simp at e; subst e; exact hne)
  have HAT : Hid (∀ ad, ao' = some ad → blk ao = some ad.block ∨ w.heap.size ≤ ad.block) := by
    intro ad e
    subst e
    rcases hat with h1 | h1
    · exact .inl h1.symm
    · right; simp [blk] at h1; omega
  have BW := hideM ((((Below.refl B w).grown hgrow hB (fun k e => OwnsB.based HO.out k e))).grown k2 (Nat.le_trans hB hgrow.size) (fun k e => by simp at e; omega))
  have HK : Hid (∀ k, k < w.heap.size → k ≠ p → blk ao ≠ some k → (w1.setCell ⟨p, 0, none⟩ (.slice ao' cs.length cap')).heap[k]? = w.heap[k]?) := by
    intro k h1 h2 h3
    rw [k2.block k (Nat.lt_of_lt_of_le h1 hgrow.size) (by simp; exact h2), hgrow.block k h1 (fun e => h3 e.symm)]
  have HM := hideM hm
  have K1 := hideM k1
  obtain ⟨y0, y1, y2, e0, e1, e2⟩ := hs1
  clear hown hgrow hat ho ho' k1 k2 k3 hr hs c0 c1 c2 f0 f1 f2 hm hne hpb
  go_wp2_with fail
  go_end0
  exact ⟨rfl, ⟨ao', cap', K1.out, HM.out.row, HM.out.fits, fun ad e => ⟨HAT.out ad e, (HM.out.lies ad e).1, (HM.out.lies ad e).2.1⟩⟩, HK.out, BW.out⟩
end Go.Proofs.YtlffdadmgginmaeDoor
namespace Go.Proofs.YtlffdadmgginmaeDoor
open Go.RowKit
attribute [local go_sem ↓] Go.wp_at_zero Go.wp_at_succ
set_option linter.unusedVariables false

/-- What the package's variables hold. -/
structure Glob (w : World) : Prop where
  sz : 3 ≤ w.heap.size
  g0 : w.cell? ⟨1, 0, none⟩ = some (.iface 192 (.agg #[.pointer (some ⟨3, 93, none⟩)]))
  g1 : ∀ k, k < 19 → w.cell? ⟨2, k, none⟩ = some (.int .i64 (ord19 k : Nat))
theorem Glob.below {w w' : World} {B : Nat} (h : Glob w) (hb : Below B w w') (hB : 3 ≤ B) : Glob w' := by
  refine ⟨Nat.le_trans h.sz hb.size, ?_, fun k hk => ?_⟩
  · rw [hb.cell (p := ⟨1, 0, none⟩) (by show 1 < _; omega)]; exact h.g0
  · rw [hb.cell (p := ⟨2, k, none⟩) (by show 2 < _; omega)]; exact h.g1 k hk
/-- Four cells. -/
structure Res4 (w : World) (g : Nat) (v0 v1 v2 v3 : Value) : Prop where
  c0 : w.cell? ⟨g, 0, none⟩ = some v0
  c1 : w.cell? ⟨g, 1, none⟩ = some v1
  c2 : w.cell? ⟨g, 2, none⟩ = some v2
  c3 : w.cell? ⟨g, 3, none⟩ = some v3
  f : ∀ k, w.frozen? ⟨g, k, none⟩ = false
theorem res4_new (w : World) (v0 v1 v2 v3 : Value) (t : TypeId) : Res4 (w.alloc (.cells #[v0, v1, v2, v3] t)) w.heap.size v0 v1 v2 v3 := by
  refine ⟨?_, ?_, ?_, ?_, fun k => ?_⟩ <;> simp [go_sem]
theorem Res4.below {w w' : World} {B g : Nat} {v0 v1 v2 v3 : Value} (h : Res4 w g v0 v1 v2 v3) (hb : Below B w w') (hg : g < B) : Res4 w' g v0 v1 v2 v3 :=
  ⟨(hb.cell (p := ⟨g, 0, none⟩) hg).trans h.c0, (hb.cell (p := ⟨g, 1, none⟩) hg).trans h.c1, (hb.cell (p := ⟨g, 2, none⟩) hg).trans h.c2, (hb.cell (p := ⟨g, 3, none⟩) hg).trans h.c3, fun k => (hb.frozen (p := ⟨g, k, none⟩) hg).trans (h.f k)⟩
theorem Res4.set {w : World} {g : Nat} {v0 v1 v2 v3 : Value} (h : Res4 w g v0 v1 v2 v3) (x0 x1 x2 x3 : Value) :
    Res4 ((((w.setCell ⟨g, 0, none⟩ x0).setCell ⟨g, 1, none⟩ x1).setCell ⟨g, 2, none⟩ x2).setCell ⟨g, 3, none⟩ x3) g x0 x1 x2 x3 ∧ w.grownBy ((((w.setCell ⟨g, 0, none⟩ x0).setCell ⟨g, 1, none⟩ x1).setCell ⟨g, 2, none⟩ x2).setCell ⟨g, 3, none⟩ x3) (some g) := by
  have hn : ∀ (W : World) (x : Value) (i j : Nat), i ≠ j → (W.setCell ⟨g, i, none⟩ x).cell? ⟨g, j, none⟩ = W.cell? ⟨g, j, none⟩ := fun W x i j hij => World.cell?_setCell_other _ _ _ _ (by first | (simp; done) | (simp; omega))
  refine ⟨⟨?_, ?_, ?_, ?_, fun k => ?_⟩, ?_⟩
  · rw [hn _ _ 3 0 (by decide), hn _ _ 2 0 (by decide), hn _ _ 1 0 (by decide), World.cell?_setCell_same _ _ _ h.c0]
  · rw [hn _ _ 3 1 (by decide), hn _ _ 2 1 (by decide), World.cell?_setCell_same _ _ _ (u := v1) (by rw [hn _ _ 0 1 (by decide)]; exact h.c1)]
  · rw [hn _ _ 3 2 (by decide), World.cell?_setCell_same _ _ _ (u := v2) (by rw [hn _ _ 1 2 (by decide), hn _ _ 0 2 (by decide)]; exact h.c2)]
  · rw [World.cell?_setCell_same _ _ _ (u := v3) (by rw [hn _ _ 2 3 (by decide), hn _ _ 1 3 (by decide), hn _ _ 0 3 (by decide)]; exact h.c3)]
  · simp only [World.frozen?_setCell]
    exact h.f k
  · exact grownBy_trans (grownBy_trans (grownBy_trans (grownBy_setCell w ⟨g, 0, none⟩ _) (grownBy_setCell _ ⟨g, 1, none⟩ _)) (grownBy_setCell _ ⟨g, 2, none⟩ _)) (grownBy_setCell _ ⟨g, 3, none⟩ _)
/-- A machine for lengths that was just made. -/
structure LNew (w : World) (q p : Nat) : Prop where
  c0 : w.cell? ⟨q, 0, none⟩ = some (.pointer (some ⟨p, 0, none⟩))
  c1 : w.cell? ⟨q, 1, none⟩ = some .nilFunc
  num : ∀ k, isNum k → w.cell? ⟨q, k, none⟩ = some (.int .i64 0)
  c25 : w.cell? ⟨q, 25, none⟩ = some (.pointer none)
  c26 : w.cell? ⟨q, 26, none⟩ = some (.slice none 0 0)
  c28 : w.cell? ⟨q, 28, none⟩ = some .nilFunc
  f : ∀ k, w.frozen? ⟨q, k, none⟩ = false
theorem lnew_new (w : World) (p : Nat) : LNew (w.alloc (.cells #[.pointer (some ⟨p, 0, none⟩), .nilFunc, .int .i64 0, .int .i64 0, .int .i64 0, .int .i64 0, .int .i64 0, .int .i64 0, .int .i64 0, .int .i64 0, .int .i64 0, .int .i64 0, .int .i64 0, .int .i64 0, .int .i64 0, .int .i64 0, .int .i64 0, .int .i64 0, .int .i64 0, .int .i64 0, .int .i64 0, .int .i64 0, .int .i64 0, .int .i64 0, .int .i64 0, .pointer none, .slice none 0 0, .int .i64 0, .nilFunc] 58)) w.heap.size p := by
  refine ⟨?_, ?_, fun k hk => ?_, ?_, ?_, ?_, fun k => ?_⟩
  · simp [go_sem]
  · simp [go_sem]
  · have h3 : k = 2 ∨ k = 3 ∨ k = 4 ∨ k = 5 ∨ k = 6 ∨ k = 7 ∨ k = 8 ∨ k = 9 ∨ k = 10 ∨ k = 11 ∨ k = 12 ∨ k = 13 ∨ k = 14 ∨ k = 15 ∨ k = 16 ∨ k = 17 ∨ k = 18 ∨ k = 19 ∨ k = 20 ∨ k = 21 ∨ k = 22 ∨ k = 23 ∨ k = 24 ∨ k = 27 := by unfold isNum at hk; omega
    rcases h3 with rfl | rfl | rfl | rfl | rfl | rfl | rfl | rfl | rfl | rfl | rfl | rfl | rfl | rfl | rfl | rfl | rfl | rfl | rfl | rfl | rfl | rfl | rfl | rfl <;> simp [go_sem]
  · simp [go_sem]
  · simp [go_sem]
  · simp [go_sem]
  · simp [go_sem]
theorem LNew.same {w w' : World} {q p : Nat} (h : LNew w q p) (hb : w'.heap[q]? = w.heap[q]?) : LNew w' q p := by
  have hc : ∀ o, w'.cell? ⟨q, o, none⟩ = w.cell? ⟨q, o, none⟩ := fun o => World.cell?_of_block (w := w) (a := ⟨q, o, none⟩) hb
  exact ⟨(hc 0).trans h.c0, (hc 1).trans h.c1, fun k hk => (hc k).trans (h.num k hk), (hc 25).trans h.c25, (hc 26).trans h.c26, (hc 28).trans h.c28, fun k => (World.frozen?_of_block (w := w) (a := ⟨q, k, none⟩) hb).trans (h.f k)⟩
theorem LNew.mem {w : World} {q p hB : Nat} {zs : List Int} (h : LNew w q p) (hne : q ≠ p) (hbq : hB ≠ q) (hq : 3 ≤ q) (hp : 3 ≤ p) (hb : 3 ≤ hB) (hbw : hB < w.heap.size) (hr : Rd w p hB zs 0) (hG : Glob w) : LMem q p hB zs .nilFunc w (lc0 0) := by
  refine ⟨hne, hbq, ⟨hq, hp, hb⟩, hr, h.c0, ⟨_, h.c1⟩, h.num, ⟨_, h.c25⟩, h.c28, h.f, ⟨w.heap.size, _, World.block_lt_of_cell? w _ h.c0, hr.lt, hbw, Nat.le_refl _, h.c26, ⟨rfl, .inl ⟨rfl, rfl⟩⟩, fun h1 => absurd h1 (by show ¬ (1 : Nat) ≤ 0; omega), fun h1 => absurd h1 (by show ¬ (4 : Nat) ≤ 0; omega)⟩, hG.g0, hG.g1⟩
theorem OwnsI.lower' {B B' D : Nat} {w : World} {ao : Option Addr} {cap : Nat} {zs : List Int} (h : OwnsI B w ao cap zs) (hg : ∀ g, blk ao = some g → D ≤ g) (hB : B' ≤ D) : OwnsI B' w ao cap zs := by
  refine ⟨h.1, ?_⟩
  rcases h.2 with h2 | ⟨g, c, cur, h3, h4, h5⟩
  · exact .inl h2
  · refine .inr ⟨g, c, cur, h3, Nat.le_trans hB (hg g ?_), h5⟩
    simp only [Value.slice.injEq] at h3
    rw [h3.1]
    rfl
set_option maxRecDepth 100000 in
set_option maxHeartbeats 6400000 in
theorem ireadLens_any (ao : Option Addr) (cap : Nat) (zs : List Int) (i : Nat) (w : World) (hr : Row w ao zs) (hnil : ao = none → zs.length = 0 ∧ cap = 0) (hz : Octets zs) (hl : zs.length ≤ 65536) (hi : i ≤ 8 * zs.length) (hG : Glob w) :
    Calls Tryd.prog 7 #[.slice ao zs.length cap, .int .i64 (i : Nat)] w fun e w' => ∃ k cf, LEnds zs (lc0 i) k cf ∧ LensIs (lRes i k cf).1 (lRes i k cf).2.1 (lRes i k cf).2.2.1 (lRes i k cf).2.2.2 e w w' := by
  have HR := hideM hr
  have HNIL := hideM hnil
  have HZ := hideM hz
  have HG := hideM hG
  have hGs := hG.sz
  have hd1 : decide ((zs.length : Int) > 65536) = false := decide_eq_false (by omega)
  have hd2 : decide ((i : Int) < 0) = false := decide_eq_false (by omega)
  have hd3 : decide ((i : Int) > 8 * (zs.length : Int)) = false := decide_eq_false (by omega)
  have B0 : Hid (Below w.heap.size w (w.alloc (.cells #[.int .i64 0, .slice none 0 0, .slice none 0 0, .int .i64 0] 25))) := (Below.refl _ _).alloc (Nat.le_refl _) _
  have R0 := hideM (res4_new w (.int .i64 0) (.slice none 0 0) (.slice none 0 0) (.int .i64 0) 25)
  have NM := hideM (newMachine_any (w.alloc (.cells #[.int .i64 0, .slice none 0 0, .slice none 0 0, .int .i64 0] 25)))
  have z0 : (w.alloc (.cells #[.int .i64 0, .slice none 0 0, .slice none 0 0, .int .i64 0] 25)).heap.size = w.heap.size + 1 := by simp
  rw [z0] at NM
  clear hr hnil hz hG
  go_enter Tryd.func7, Tryd.ntmps7
  go_wp2_with fail
  refine Calls.mono NM.out ?_
  rintro e w1 ⟨p, a1, c1, rfl, hs, ho, hp, hp2, hne, hb⟩
  have N1 := hideM (lnew_new w1 p)
  have bq : Below w1.heap.size w1 (w1.alloc (.cells #[.pointer (some ⟨p, 0, none⟩), .nilFunc, .int .i64 0, .int .i64 0, .int .i64 0, .int .i64 0, .int .i64 0, .int .i64 0, .int .i64 0, .int .i64 0, .int .i64 0, .int .i64 0, .int .i64 0, .int .i64 0, .int .i64 0, .int .i64 0, .int .i64 0, .int .i64 0, .int .i64 0, .int .i64 0, .int .i64 0, .int .i64 0, .int .i64 0, .int .i64 0, .int .i64 0, .pointer none, .slice none 0 0, .int .i64 0, .nilFunc] 58)) := (Below.refl _ _).alloc (Nat.le_refl _) _
  have S1 := hideM (hs.grown (grownBy_of_below bq none) (by simp))
  have O1 := hideM (OwnsB.below ho bq)
  have B1 := hideM ((B0.out.trans (hb.mono (Nat.le_succ _))).trans (bq.mono (by have := hb.size; omega)))
  have R1 := hideM ((R0.out.below hb (Nat.lt_succ_self _)).below bq (by have := hb.size; omega))
  have L1 : Hid (∀ g, blk a1 = some g → g < w1.heap.size) := by
    intro g e
    cases a1 with
    | none => cases e
    | some ad =>
      have := (ho.mine.lies ad rfl).2.1
      simp [blk] at e
      omega
  have zq : (w1.alloc (.cells #[.pointer (some ⟨p, 0, none⟩), .nilFunc, .int .i64 0, .int .i64 0, .int .i64 0, .int .i64 0, .int .i64 0, .int .i64 0, .int .i64 0, .int .i64 0, .int .i64 0, .int .i64 0, .int .i64 0, .int .i64 0, .int .i64 0, .int .i64 0, .int .i64 0, .int .i64 0, .int .i64 0, .int .i64 0, .int .i64 0, .int .i64 0, .int .i64 0, .int .i64 0, .int .i64 0, .pointer none, .slice none 0 0, .int .i64 0, .nilFunc] 58)).heap.size = w1.heap.size + 1 := by simp
  have hw1 : w.heap.size + 1 ≤ w1.heap.size := by have := hb.size; omega
  have HNE := hideM hne
  clear hs ho hb hne B0 R0 NM z0 bq
  go_upto_region 6 with fail
  obtain ⟨q, hq⟩ : ∃ q, w1.heap.size = q := ⟨_, rfl⟩
  rw [hq] at N1 hp2 hw1 zq L1 ⊢
  generalize w1.alloc (.cells #[.pointer (some ⟨p, 0, none⟩), .nilFunc, .int .i64 0, .int .i64 0, .int .i64 0, .int .i64 0, .int .i64 0, .int .i64 0, .int .i64 0, .int .i64 0, .int .i64 0, .int .i64 0, .int .i64 0, .int .i64 0, .int .i64 0, .int .i64 0, .int .i64 0, .int .i64 0, .int .i64 0, .int .i64 0, .int .i64 0, .int .i64 0, .int .i64 0, .int .i64 0, .int .i64 0, .pointer none, .slice none 0 0, .int .i64 0, .nilFunc] 58) = W1 at *
  clear hq
  have FD := hideM (feed_new p a1 ao c1 cap zs (w.heap.size + 1) W1 S1.out O1.out (by omega) (by omega) HNE.out (HR.out.below B1.out) HNIL.out hl)
  have hc0 := N1.out.c0
  have hqw : q < W1.heap.size := by omega
  go_wp2_with fail
  refine Calls.mono FD.out ?_
  rintro e w2 ⟨rfl, ⟨a2, c2, hs2, hr2, hcap2, hbl2⟩, hk2, hb2⟩
  obtain ⟨hB, hBe, hBp, hBq, hBl, hBw⟩ : ∃ hB, (∀ ad, a2 = some ad → ad.block = hB) ∧ hB ≠ p ∧ hB ≠ q ∧ w.heap.size ≤ hB ∧ hB < w2.heap.size := by
    cases a2 with
    | none => exact ⟨w.heap.size, ⟨(fun ad e => by cases e), by omega, by omega, Nat.le_refl _, by have := hb2.size; omega⟩⟩
    | some ad =>
      obtain ⟨h1, h2, h3⟩ := hbl2 ad rfl
      refine ⟨ad.block, ⟨(fun ad' e => by cases e; rfl), ?_, ?_, by omega, h3⟩⟩
      · rcases h1 with h | h
        · intro e; exact HNE.out (e ▸ h)
        · omega
      · rcases h1 with h | h
        · have := L1.out _ h; omega
        · omega
  have RD2 : Rd w2 p hB zs 0 := ⟨Nat.zero_le _, hBp, a2, c2, hs2, hr2, hcap2, hBe⟩
  have N2 := N1.out.same (hk2 q hqw (by omega) (fun e => by have := L1.out q e; omega))
  have B2 := hideM (B1.out.trans (hb2.mono (Nat.le_succ _)))
  have G2 := HG.out.below B2.out hGs
  have M2 := hideM (N2.mem (zs := zs) (by omega) hBq (by omega) (by omega) (by omega) hBw RD2 G2)
  have R2 := hideM (R1.out.below hb2 (Nat.lt_succ_self _))
  have hqw2 : q < w2.heap.size := by have := hb2.size; omega
  have hc0' := N2.c0
  have PS := hideM (rd_pass p hB zs 0 i w2 RD2 hl (by omega))
  clear hs2 hr2 hcap2 hbl2 hk2 hb2 hBe RD2 N2 G2 N1 S1 O1 R1 L1 FD hc0 B1 HNE
  go_wp2_with fail
  refine Calls.mono PS.out ?_
  rintro e w3 ⟨rfl, hrd3, hg3⟩
  have M3 := hideM (M2.out.went hrd3 hg3)
  have B3 := hideM (B2.out.grown hg3 B2.out.size (fun k e => by simp at e; omega))
  have R3 := hideM (R2.out.below ((Below.refl (w.heap.size + 1) w2).grown hg3 (by omega) (fun k e => by simp at e; omega)) (Nat.lt_succ_self _))
  have hqw3 : q < w3.heap.size := by have := hg3.size; omega
  rw [Nat.zero_add] at M3
  obtain ⟨old1, hc1⟩ := M3.out.c1
  have hf1 := M3.out.free 1
  have hst := store_func w3 ⟨q, 1, none⟩ (Fn.func 24) #[.pointer (some ⟨q, 0, none⟩)] #[] old1 hc1 hf1
  have M4 := hideM (M3.out.next (.func (Fn.func 24) #[.pointer (some ⟨q, 0, none⟩)] #[]))
  have g4 := grownBy_setCell w3 ⟨q, 1, none⟩ (.func (Fn.func 24) #[.pointer (some ⟨q, 0, none⟩)] #[])
  have B4 := hideM (B3.out.grown g4 B3.out.size (fun k e => by simp at e; omega))
  have R4 := hideM (R3.out.below ((Below.refl (w.heap.size + 1) w3).grown g4 (by omega) (fun k e => by simp at e; omega)) (Nat.lt_succ_self _))
  have C4 : Hid ((w3.setCell ⟨q, 1, none⟩ (.func (Fn.func 24) #[.pointer (some ⟨q, 0, none⟩)] #[])).cell? ⟨q, 1, none⟩ = some (lnow q .nilFunc 0)) := World.cell?_setCell_same _ _ _ hc1
  have z4 := g4.size
  clear hrd3 hg3 M2 B2 R2 PS M3 B3 R3 g4
  go_upto_region 9 with fail
  generalize (w3.setCell ⟨q, 1, none⟩ (.func (Fn.func 24) #[.pointer (some ⟨q, 0, none⟩)] #[])) = W4 at *
  have RUN := hideM (lens_run q p hB (w.heap.size + 1) zs HZ.out hl (by omega) (by omega) ⟨lc0 i, LWell.none _ rfl⟩ W4 M4.out C4.out)
  have hqw4 : q < W4.heap.size := by omega
  clear hst hc1 hf1 hc0' M4 C4 
  go_wp2_with fail
  refine Calls.mono RUN.out ?_
  rintro e w5 ⟨k, cf, rfl, hE, hM, hb5⟩
  obtain ⟨c2', hLE, ⟨s5, hs5⟩, h6⟩ := LEnds.of_ends hE
  have B5 := hideM (B4.out.trans (hb5.mono (Nat.le_succ _)))
  have R5 := hideM (R4.out.below hb5 (Nat.lt_succ_self _))
  have HLE := hideM hLE
  clear hE RUN B4 R4 hb5
  by_cases hk1 : k = 1
  · subst hk1
    obtain ⟨hW, h6st, hlen⟩ := lc0_end HLE.out
    have hM5 : LMem q p hB zs .nilFunc w5 cf.1 := hM
    rw [hs5] at hM5
    have hlit := hW.lit (by omega)
    have hdst := hW.dist (by omega)
    obtain ⟨l, hl2⟩ : ∃ l : Nat, c2'.f 2 = (l : Int) := ⟨(c2'.f 2).toNat, by omega⟩
    have hnum := hM5.num 2 (.inl ⟨by omega, by omega⟩)
    dsimp only at hnum
    rw [hl2] at hnum hlit hlen
    obtain ⟨Bo, v, _, _, _, hBo, hc26, hown, _, _⟩ := hM5.own
    dsimp only at hown
    obtain ⟨ga, ca, rfl, hO⟩ := OwnsI.of hown
    obtain ⟨n, hn⟩ : ∃ n, c2'.lens.length = n := ⟨_, rfl⟩
    obtain ⟨g, rfl, hgB, hgw, hgc⟩ := hO.at (by omega)
    have hbits : (c2'.i : Int) ≤ 524288 := by have := hM5.rd.le; dsimp only at this; omega
    obtain ⟨us, hus⟩ : ∃ us : Nat, c2'.i = us := ⟨_, rfl⟩
    have hsrc : w5.cell? ⟨p, 2, none⟩ = some (.int .i64 (us : Nat)) := by
      obtain ⟨_, _, hh, _⟩ := hM5.rd.src
      have := hh.2.2.1
      dsimp only at this
      rw [← hus]
      exact this
    rw [hus] at hbits
    rw [hn] at hc26 hlen hgc
    have BO := hideM (both_any q g n ca l w5 hc26 hnum (by omega) hgc (by omega))
    have hq5 : q < w5.heap.size := hM5.lt
    have hp5 : p < w5.heap.size := hM5.rd.lt
    have HXX : Hid (∀ V, Below w5.heap.size w5 V → V.cell? ⟨q, 0, none⟩ = some (.pointer (some ⟨p, 0, none⟩)) ∧ V.cell? ⟨p, 2, none⟩ = some (.int .i64 (us : Nat)) ∧ q < V.heap.size ∧ p < V.heap.size ∧ Res4 V w.heap.size (.int .i64 0) (.slice none 0 0) (.slice none 0 0) (.int .i64 0)) := by
      intro V hV
      have := hV.size
      exact ⟨(hV.cell (p := ⟨q, 0, none⟩) hq5).trans hM5.c0, (hV.cell (p := ⟨p, 2, none⟩) hp5).trans hsrc, by omega, by omega, R5.out.below hV (by omega)⟩
    have hta : (c2'.lens.take l).length = l := by rw [List.length_take]; omega
    have htb : (c2'.lens.drop l).length = n - l := by rw [List.length_drop, hn]
    have HCA' : Hid (∀ V, Below w5.heap.size w5 V → Row64 V (some ⟨g, 0, none⟩) (c2'.lens.take l)) := fun V hV => (hO.row.below hV).takeN l
    have HCB' : Hid (∀ V, Below w5.heap.size w5 V → Row64 V (some ⟨g, l, none⟩) (c2'.lens.drop l)) := fun V hV => (hO.row.below hV).dropN l
    have H5 : Hid (w.heap.size < w5.heap.size) := by show _ < _; omega
    have HT := hideM (And.intro hta htb)
    have hn600 : n ≤ 600 := by omega
    have hln : l < n := by omega
    have hwr : IntKind.i64.wrap ((us : Int) - (i : Int)) = (us : Int) - (i : Int) := by rw [IntKind.wrap_i64]; omega
    have HRES : Hid (lRes i 1 c2' = (1, c2'.lens.take l, c2'.lens.drop l, (us : Int) - (i : Int))) := by
      show _ = _
      unfold lRes
      rw [if_pos rfl, hl2, hus]
      rfl
    clear hW h6st hs5 h6 hM hM5 hnum hc26 hown hO hsrc R5 hlen hl2 hLE hn hus
    go_wp2_with fail
    refine Calls.mono BO.out ?_
    rintro e w6 ⟨rfl, hb6⟩
    have HX : Hid (∀ V, Below w6.heap.size w6 V → V.cell? ⟨q, 0, none⟩ = some (.pointer (some ⟨p, 0, none⟩)) ∧ V.cell? ⟨p, 2, none⟩ = some (.int .i64 (us : Nat)) ∧ q < V.heap.size ∧ p < V.heap.size ∧ Res4 V w.heap.size (.int .i64 0) (.slice none 0 0) (.slice none 0 0) (.int .i64 0)) := fun V hV => HXX.out V (hb6.trans (hV.mono hb6.size))
    have HCA := hideM (fun V (hV : Below w6.heap.size w6 V) => clone_any g 0 ca (c2'.lens.take l) V (HCA'.out V (hb6.trans (hV.mono hb6.size))) (by rw [HT.out.1]; omega))
    have HCB := hideM (fun V (hV : Below w6.heap.size w6 V) => clone_any g l (ca - l) (c2'.lens.drop l) V (HCB'.out V (hb6.trans (hV.mono hb6.size))) (by rw [HT.out.2]; omega))
    rw [HT.out.1] at HCA
    rw [HT.out.2] at HCB
    have B6 := hideM (B5.out.trans (hb6.mono B5.out.size))
    have H6 : Hid (w.heap.size < w6.heap.size) := Nat.lt_of_lt_of_le H5.out hb6.size
    obtain ⟨x1, x2, x3, x4, _⟩ := HX.out _ (Below.refl _ _)
    generalize c2'.lens.take l = LA at *
    generalize c2'.lens.drop l = LB at *
    clear hb6 BO HXX HCA' HCB' B5 hq5 hp5
    go_upto_region 13 with fail
    go_region_with (first | (go_at_call 27; (with_reducible refine Calls.mono (HCA.out _ ?_) ?_); (first | exact ((Below.refl _ _).drew) | exact TB.out); rintro e wA ⟨aA, cA, rfl, hoA, hbA⟩; have TA : Hid (Below w6.heap.size w6 wA) := (by first | exact ((Below.refl _ _).drew).trans hbA | exact TB.out.trans (hbA.mono TB.out.size)); obtain ⟨xA1, xA2, xA3, xA4, ⟨xA5, xA6, xA7, xA8, xAf⟩⟩ := HX.out _ TA.out; have := xAf 0; have := xAf 1; have := xAf 2; have := xAf 3; clear xAf) | (go_at_call 27; (with_reducible refine Calls.mono (HCB.out _ ?_) ?_); (first | exact ((Below.refl _ _).drew) | exact TA.out); rintro e wB ⟨aB, cB, rfl, hoB, hbB⟩; have TB : Hid (Below w6.heap.size w6 wB) := (by first | exact ((Below.refl _ _).drew).trans hbB | exact TA.out.trans (hbB.mono TA.out.size)); obtain ⟨xB1, xB2, xB3, xB4, ⟨xB5, xB6, xB7, xB8, xBf⟩⟩ := HX.out _ TB.out; have := xBf 0; have := xBf 1; have := xBf 2; have := xBf 3; clear xBf))
    all_goals
      first
        | (have OA := hideM (hoA.below hbB); have OB := hideM hoB; have TL := TB; have hne : ∀ g, blk aA = some g → blk aB ≠ some g := fun g e e2 => by have := hoA.lies g e; have := hoB.base g e2; omega)
        | (have OB := hideM (hoB.below hbA); have OA := hideM hoA; have TL := TA; have hne : ∀ g, blk aA = some g → blk aB ≠ some g := fun g e e2 => by have := hoB.lies g e2; have := hoA.base g e; omega)
      have bA : ∀ g, blk aA = some g → w6.heap.size ≤ g := fun g e => by have := hoA.base g e; first | exact this | exact Nat.le_trans TB.out.size this
      have bB : ∀ g, blk aB = some g → w6.heap.size ≤ g := fun g e => by have := hoB.base g e; first | exact this | exact Nat.le_trans TA.out.size this
      have h6 := H6.out
      have E := hideM ((HX.out _ TL.out).2.2.2.2.set (.int .i64 1) (.slice aA l cA) (.slice aB (n - l) cB) (.int .i64 ((us : Int) - (i : Int))))
      have LI : Hid (LensIn w.heap.size _ aA cA LA aB cB LB) := ⟨(OA.out.grown E.out.2 (fun k e e2 => by have := bA k e2; simp at e; omega)).lower' bA (by omega), (OB.out.grown E.out.2 (fun k e e2 => by have := bB k e2; simp at e; omega)).lower' bB (by omega), hne⟩
      have B7 := hideM ((B6.out.trans (TL.out.mono B6.out.size)).grown E.out.2 (by have := TL.out.size; omega) (fun k e => by simp at e; omega))
      clear hoA hoB hbA hbB bA bB hne OA OB TL
      go_wp2_with fail
      obtain ⟨⟨y0, y1, y2, y3, _⟩, _⟩ := E.out
      exact bodyPost_ret (v := .agg #[.int .i64 1, .slice aA l cA, .slice aB (n - l) cB, .int .i64 ((us : Int) - (i : Int))]) (by simp [results, Tryd.results7, go_sem, y0, y1, y2, y3]) rfl ⟨1, c2', HLE.out, by
        rw [HRES.out]
        exact ⟨aA, cA, aB, cB, by rw [HT.out.1, HT.out.2], LI.out, B7.out⟩⟩
  · have hkb : (k != 1) = true := by simp [hk1]
    have HK1 := hideM hk1
    obtain ⟨r0, r1, r2, r3, rf⟩ := R5.out
    have rf0 := rf 0
    have rf1 := rf 1
    have rf2 := rf 2
    have rf3 := rf 3
    have E := hideM (R5.out.set (.int .i64 k) (.slice none 0 0) (.slice none 0 0) (.int .i64 0))
    have B6 := hideM (B5.out.grown E.out.2 B5.out.size (fun k e => by simp at e; omega))
    clear rf hk1 hM hs5 h6 hLE
    go_wp2_with fail
    obtain ⟨⟨y0, y1, y2, y3, _⟩, _⟩ := E.out
    exact bodyPost_ret (v := .agg #[.int .i64 k, .slice none 0 0, .slice none 0 0, .int .i64 0]) (by simp [results, Tryd.results7, go_sem, y0, y1, y2, y3]) rfl ⟨k, c2', HLE.out, by
      unfold lRes
      rw [if_neg HK1.out]
      exact ⟨none, 0, none, 0, rfl, LensIn.nil _ _, B6.out⟩⟩
end Go.Proofs.YtlffdadmgginmaeDoor
namespace Go.Proofs.YtlffdadmgginmaeDoor
open Go.RowKit
attribute [local go_sem ↓] Go.wp_at_zero Go.wp_at_succ
set_option linter.unusedVariables false

theorem below_up {w W : World} (h : Below w.heap.size w W) (o : Obj) : Below w.heap.size w (W.alloc o) := h.alloc h.size o
theorem below_grow {w W W' : World} (h : Below w.heap.size w W) (hg : W.grownBy W' none) : Below w.heap.size w W' := h.grown hg h.size (fun k e => by cases e)
theorem row64_news {w : World} {g o : Nat} {ys : List Int} (hr : Row64 w (some ⟨g, o, none⟩) ys) : ∀ j u, (ys.map (Value.int .i64))[j]? = some u → w.cell? ((⟨g, o, none⟩ : Addr).add j) = some u := by
  intro j u hu
  rw [List.getElem?_map, Option.map_eq_some_iff] at hu
  obtain ⟨x, hx, rfl⟩ := hu
  obtain ⟨hj, hx⟩ := List.getElem?_eq_some_iff.1 hx
  obtain ⟨b, off, e, hc⟩ := hr j hj
  cases e
  rw [Addr.add_lit, hc, List.getD_eq_getElem?_getD, List.getElem?_eq_getElem hj, hx]
  rfl
theorem row64_some {w : World} {a : Option Addr} {ys : List Int} (hr : Row64 w a ys) (h : 0 < ys.length) : ∃ g o, a = some ⟨g, o, none⟩ := by
  obtain ⟨b, off, e, _⟩ := hr 0 h
  exact ⟨b, off, e⟩
set_option maxRecDepth 100000 in
set_option maxHeartbeats 25600000 in
theorem sreadLens_any (ao : Option Addr) (cap : Nat) (zs : List Int) (i : Nat) (k : Int) (cf : LC) (w : World) (hr : Row w ao zs) (hz : Octets zs) (hl : zs.length ≤ 65536) (hi : i ≤ 8 * zs.length) (hE : LEnds zs (lc0 i) k cf) :
    Calls Tryd.prog 5 #[.slice ao zs.length cap, .int .i64 (i : Nat)] w fun e w' => LensIs (lRes i k cf).1 (lRes i k cf).2.1 (lRes i k cf).2.2.1 (lRes i k cf).2.2.2 e w w' := by
  obtain ⟨i0, hi0, hz0, hz1, hz2⟩ := info_parts Tryd.info_i64d
  have hd1 : decide ((zs.length : Int) > 65536) = false := decide_eq_false (by omega)
  have hd2 : decide ((i : Int) < 0) = false := decide_eq_false (by omega)
  have hd3 : decide ((i : Int) > 8 * (zs.length : Int)) = false := decide_eq_false (by omega)
  have b0 : Below w.heap.size w (w.alloc (.cells #[.int .i64 0, .slice none 0 0, .slice none 0 0, .int .i64 0] 25)) := (Below.refl _ _).alloc (Nat.le_refl _) _
  have B0 := hideM b0
  have R0 := hideM (res4_new w (.int .i64 0) (.slice none 0 0) (.slice none 0 0) (.int .i64 0) 25)
  have HL := hideM (l5Lens_any ao cap zs i k cf (lc0 i) (w.alloc (.cells #[.int .i64 0, .slice none 0 0, .slice none 0 0, .int .i64 0] 25)) (hr.below b0) hz hl hi rfl rfl hE)
  have z0 : (w.alloc (.cells #[.int .i64 0, .slice none 0 0, .slice none 0 0, .int .i64 0] 25)).heap.size = w.heap.size + 1 := by simp
  have HE := hideM hE
  clear hr hz hE b0
  go_enter Tryd.func5, Tryd.ntmps5
  go_wp2_with fail
  refine Calls.mono HL.out ?_
  rintro e w1 ⟨i', cl, a1, n1, c1, a2, n2, c2, rfl, hyes, hno, hb⟩
  rw [z0] at hb
  have R1 := hideM (R0.out.below hb (Nat.lt_succ_self _))
  have B1 := hideM (B0.out.trans (hb.mono (Nat.le_succ _)))
  have hw1 : w.heap.size < w1.heap.size := by have := hb.size; omega
  have hb2 : Below w1.heap.size w1 (w1.alloc (.cells #[.slice ao zs.length cap, .int .i64 (i' : Nat), .int .i64 cl] 43)) := (Below.refl _ _).alloc (Nat.le_refl _) _
  have M2 := hideM (l5m_new w1 (.slice ao zs.length cap) (i' : Nat) cl 43)
  have R2 := hideM (R1.out.below hb2 hw1)
  have B2 := hideM (B1.out.trans (hb2.mono B1.out.size))
  have hw2 : w1.heap.size < (w1.alloc (.cells #[.slice ao zs.length cap, .int .i64 (i' : Nat), .int .i64 cl] 43)).heap.size := M2.out.lt
  have HB2 := hideM hb2
  clear R1 B1 hb hb2 B0 R0 HL
  go_upto_region 6 with fail
  generalize (w1.alloc (.cells #[.slice ao zs.length cap, .int .i64 (i' : Nat), .int .i64 cl] 43)) = w5 at *
  obtain ⟨gr, hgr⟩ : ∃ g, w1.heap.size = g := ⟨_, rfl⟩
  rw [hgr] at hw1 hw2 M2 ⊢
  have HB3 := hideM (hgr ▸ HB2.out : Below gr w1 w5)
  by_cases hk1 : k = 1
  · subst hk1
    obtain ⟨rfl, rfl, rfl, rfl, h1, h2⟩ := hyes rfl
    obtain ⟨hW, h6st, hlen⟩ := lc0_end HE.out
    have hlit := hW.lit (by omega)
    have hdst := hW.dist (by omega)
    obtain ⟨l, hl2⟩ : ∃ l : Nat, cf.f 2 = (l : Int) := ⟨(cf.f 2).toNat, by omega⟩
    rw [hl2] at hlit hlen
    have hta : (cf.lens.take (cf.f 2).toNat).length = l := by rw [hl2, List.length_take]; omega
    obtain ⟨d, hd⟩ : ∃ d, (cf.lens.drop (cf.f 2).toNat).length = d := ⟨_, rfl⟩
    have hd' : (d : Int) = cf.f 3 := by rw [← hd, hl2, List.length_drop]; omega
    obtain ⟨gA, fA, rfl⟩ := row64_some h1 (by omega)
    obtain ⟨gB, fB, rfl⟩ := row64_some h2 (by omega)
    have HNA : Hid (∀ V, Below w5.heap.size w5 V → ∀ j u, ((cf.lens.take (cf.f 2).toNat).map (Value.int .i64))[j]? = some u → V.cell? ((⟨gA, fA, none⟩ : Addr).add j) = some u) := fun V hV => row64_news ((h1.below HB2.out).below hV)
    have HNB : Hid (∀ V, Below w5.heap.size w5 V → ∀ j u, ((cf.lens.drop (cf.f 2).toNat).map (Value.int .i64))[j]? = some u → V.cell? ((⟨gB, fB, none⟩ : Addr).add j) = some u) := fun V hV => row64_news ((h2.below HB2.out).below hV)
    have HRES : Hid (lRes i 1 cf = (1, cf.lens.take (cf.f 2).toNat, cf.lens.drop (cf.f 2).toNat, (cf.i : Int) - (i : Int))) := by show _ = _; unfold lRes; rw [if_pos rfl]
    have hci : (cf.i : Int) ≤ 524288 := by have := HE.out.le (LWell.none _ rfl) hi; omega
    rw [hta, hd]
    generalize cf.lens.take (cf.f 2).toNat = LA at *
    generalize cf.lens.drop (cf.f 2).toNat = LB at *
    obtain ⟨us, hus⟩ : ∃ us : Nat, cf.i = us := ⟨_, rfl⟩
    rw [hus] at M2 HRES hci
    have hwr : IntKind.i64.wrap ((us : Int) - (i : Int)) = (us : Int) - (i : Int) := by rw [IntKind.wrap_i64]; omega
    have HLLA := hideM hta
    have HLLB := hideM hd
    have HLA : Hid ((LA.map (Value.int .i64)).length = l * 1) := by show _ = _; rw [List.length_map, hta, Nat.mul_one]
    have HLB : Hid ((LB.map (Value.int .i64)).length = d * 1) := by show _ = _; rw [List.length_map, hd, Nat.mul_one]
    have HOA : Hid (∀ u ∈ LA.map (Value.int .i64), u.oneCell' = true) := by intro u hu; obtain ⟨x, _, rfl⟩ := List.mem_map.1 hu; rfl
    have HOB : Hid (∀ u ∈ LB.map (Value.int .i64), u.oneCell' = true) := by intro u hu; obtain ⟨x, _, rfl⟩ := List.mem_map.1 hu; rfl
    have HFA : Hid (0 < 0 + l) := by show _ < _; omega
    have HFB : Hid (0 < 0 + d) := by show _ < _; omega
    have HPA : Hid (0 + l ≤ maxLen) := by show _ ≤ _; unfold maxLen; omega
    have HPB : Hid (0 + d ≤ maxLen) := by show _ ≤ _; unfold maxLen; omega
    have HQA : Hid ((0 + l) * 8 ≤ 140737488355328) := by show _ ≤ _; omega
    have HQB : Hid ((0 + d) * 8 ≤ 140737488355328) := by show _ ≤ _; omega
    have HX : Hid (∀ V, Below w5.heap.size w5 V → V.cell? ⟨gr, 1, none⟩ = some (.int .i64 (us : Nat)) ∧ gr < V.heap.size ∧ Res4 V w.heap.size (.int .i64 0) (.slice none 0 0) (.slice none 0 0) (.int .i64 0)) := by
      intro V hV
      have := hV.size
      exact ⟨(hV.cell (p := ⟨gr, 1, none⟩) hw2).trans M2.out.2.1, by omega, R2.out.below hV (by omega)⟩
    obtain ⟨m0, m1, m2, _⟩ := M2.out
    have H5 : Hid (w.heap.size < w5.heap.size) := by show _ < _; omega
    clear h1 h2 hno hyes hW h6st hlen hl2 hd' hdst M2 R2 HB2 HB3 hta hd hus hlit HE hgr
    go_upto_region 8 with fail
    clear m0 m2
    first | go_region_law (first | (refine step_append_grows rfl (.tmp 36) (.tmp 37) 23 rfl 2 i0 (.int .i64 0) 1 8 Tryd.underlying23 hi0 hz0 hz1 hz2 rfl (by decide) _ 0 0 [] rfl (fun _ => ⟨rfl, rfl⟩) rfl (fun _ _ _ _ h => by simp at h) ⟨gA, fA, none⟩ l c1 (LA.map (Value.int .i64)) rfl HLA.out (HNA.out _ (by first | exact (Below.refl _ _).drew | exact below_up (Below.refl _ _).drew _ | exact below_up (below_up (Below.refl _ _).drew _) _ | exact TB.out | exact below_up TB.out _)) HOA.out HFA.out HPA.out HQA.out ?_; intro vA wA hoA hgA; have TA : Hid (Below w5.heap.size w5 wA) := below_grow (by first | exact (Below.refl _ _).drew | exact below_up (Below.refl _ _).drew _ | exact below_up (below_up (Below.refl _ _).drew _) _ | exact TB.out | exact below_up TB.out _) hgA; obtain ⟨aA, cA, hvA, oA⟩ := OwnsI.of (zs := LA) hoA; rw [HLLA.out] at hvA; subst hvA; obtain ⟨xA1, xA2, ⟨xA5, xA6, xA7, xA8, xAf⟩⟩ := HX.out _ TA.out; have := xAf 0; have := xAf 1; have := xAf 2; have := xAf 3; (try have NE : Hid (∀ g, blk aA = some g → blk aB ≠ some g) := fun g e1 e2 => by have h1 := oB.lies g e2; have h2 := oA.base g e1; first | omega | (simp at h2; omega)); (try have OB2 := hideM (oB.below (below_grow (by first | exact Below.refl _ _ | exact below_up (Below.refl _ _) _) hgA))); clear xAf) | (refine step_append_grows rfl (.tmp 39) (.tmp 40) 23 rfl 2 i0 (.int .i64 0) 1 8 Tryd.underlying23 hi0 hz0 hz1 hz2 rfl (by decide) _ 0 0 [] rfl (fun _ => ⟨rfl, rfl⟩) rfl (fun _ _ _ _ h => by simp at h) ⟨gB, fB, none⟩ d c2 (LB.map (Value.int .i64)) rfl HLB.out (HNB.out _ (by first | exact (Below.refl _ _).drew | exact below_up (Below.refl _ _).drew _ | exact below_up (below_up (Below.refl _ _).drew _) _ | exact TA.out | exact below_up TA.out _)) HOB.out HFB.out HPB.out HQB.out ?_; intro vB wB hoB hgB; have TB : Hid (Below w5.heap.size w5 wB) := below_grow (by first | exact (Below.refl _ _).drew | exact below_up (Below.refl _ _).drew _ | exact below_up (below_up (Below.refl _ _).drew _) _ | exact TA.out | exact below_up TA.out _) hgB; obtain ⟨aB, cB, hvB, oB⟩ := OwnsI.of (zs := LB) hoB; rw [HLLB.out] at hvB; subst hvB; obtain ⟨xB1, xB2, ⟨xB5, xB6, xB7, xB8, xBf⟩⟩ := HX.out _ TB.out; have := xBf 0; have := xBf 1; have := xBf 2; have := xBf 3; (try have NE : Hid (∀ g, blk aA = some g → blk aB ≠ some g) := fun g e1 e2 => by have h1 := oA.lies g e1; have h2 := oB.base g e2; first | omega | (simp at h2; omega)); (try have OA2 := hideM (oA.below (below_grow (by first | exact Below.refl _ _ | exact below_up (Below.refl _ _) _) hgB))); clear xBf)) | fail
    all_goals
      first | (have OAx := OA2; have OBx := hideM oB; have TL := TB) | (have OBx := OB2; have OAx := hideM oA; have TL := TA)
      have h5 := H5.out
      have bA : ∀ g, blk aA = some g → w5.heap.size ≤ g := fun g e => by have h := oA.base g e; first | exact h | (simp at h; first | exact h | omega) | exact Nat.le_trans TB.out.size h | (simp at h; have := TB.out.size; omega)
      have bB : ∀ g, blk aB = some g → w5.heap.size ≤ g := fun g e => by have h := oB.base g e; first | exact h | (simp at h; first | exact h | omega) | exact Nat.le_trans TA.out.size h | (simp at h; have := TA.out.size; omega)
      have E := hideM ((HX.out _ TL.out).2.2.set (.int .i64 1) (.slice aA l cA) (.slice aB d cB) (.int .i64 ((us : Int) - (i : Int))))
      have LI : Hid (LensIn w.heap.size _ aA cA LA aB cB LB) := ⟨(OAx.out.grown E.out.2 (fun k e e2 => by have := bA k e2; simp at e; omega)).lower' bA (by omega), (OBx.out.grown E.out.2 (fun k e e2 => by have := bB k e2; simp at e; omega)).lower' bB (by omega), NE.out⟩
      have B7 := hideM ((B2.out.trans (TL.out.mono B2.out.size)).grown E.out.2 (by have := TL.out.size; omega) (fun k e => by simp at e; omega))
      clear bA bB OAx OBx TL
      go_wp2_with fail
      obtain ⟨⟨y0, y1, y2, y3, _⟩, _⟩ := E.out
      exact bodyPost_ret (v := .agg #[.int .i64 1, .slice aA l cA, .slice aB d cB, .int .i64 ((us : Int) - (i : Int))]) (by simp [results, Tryd.results5, go_sem, y0, y1, y2, y3]) rfl (by
        rw [HRES.out]
        exact ⟨aA, cA, aB, cB, by rw [HLLA.out, HLLB.out], LI.out, B7.out⟩)
  · have hcl := hno hk1
    subst hcl
    have hkb : (cl != 0) = true := by
      rcases HE.out.kinds with h | h | h
      · exact absurd h hk1
      · simp [h]
      · simp [h]
    have HK1 := hideM hk1
    obtain ⟨m0, m1, m2, _⟩ := M2.out
    obtain ⟨r0, r1, r2, r3, rf⟩ := R2.out
    have rf0 := rf 0
    have rf1 := rf 1
    have rf2 := rf 2
    have rf3 := rf 3
    have E := hideM (R2.out.set (.int .i64 cl) (.slice none 0 0) (.slice none 0 0) (.int .i64 0))
    have B6 := hideM (B2.out.grown E.out.2 B2.out.size (fun k e => by simp at e; omega))
    clear rf hk1 hno hyes M2 R2 hgr
    go_wp2_with fail
    obtain ⟨⟨y0, y1, y2, y3, _⟩, _⟩ := E.out
    exact bodyPost_ret (v := .agg #[.int .i64 cl, .slice none 0 0, .slice none 0 0, .int .i64 0]) (by simp [results, Tryd.results5, go_sem, y0, y1, y2, y3]) rfl (by
      unfold lRes
      rw [if_neg HK1.out]
      exact ⟨none, 0, none, 0, rfl, LensIn.nil _ _, B6.out⟩)
end Go.Proofs.YtlffdadmgginmaeDoor
namespace Go.Proofs.YtlffdadmgginmaeDoor
open Go.RowKit
attribute [local go_sem ↓] Go.wp_at_zero Go.wp_at_succ
set_option linter.unusedVariables false

set_option maxRecDepth 100000 in
theorem ireadLens_long (ao : Option Addr) (cap n : Nat) (a : Int) (w : World) (hn : 65536 < n) (hn2 : n ≤ 1048576) :
    Calls Tryd.prog 7 #[.slice ao n cap, .int .i64 a] w fun e w' => LensIs 7 [] [] 0 e w w' := by
  have hd1 : decide ((n : Int) > 65536) = true := decide_eq_true (by omega)
  go_enter Tryd.func7, Tryd.ntmps7
  go_wp2_with fail
  exact bodyPost_ret (v := .agg #[.int .i64 7, .slice none 0 0, .slice none 0 0, .int .i64 0]) (by simp [results, Tryd.results7, go_sem]) rfl ⟨none, 0, none, 0, rfl, LensIn.nil _ _, (Below.refl _ _).alloc (Nat.le_refl _) _⟩
set_option maxRecDepth 100000 in
theorem ireadLens_bad (ao : Option Addr) (cap n : Nat) (a : Int) (w : World) (hn : n ≤ 65536) (ha : a < 0 ∨ 8 * (n : Int) < a) :
    Calls Tryd.prog 7 #[.slice ao n cap, .int .i64 a] w fun e w' => LensIs 3 [] [] 0 e w w' := by
  have hd1 : decide ((n : Int) > 65536) = false := decide_eq_false (by omega)
  by_cases h0 : a < 0
  · have hd2 : decide (a < 0) = true := decide_eq_true h0
    go_enter Tryd.func7, Tryd.ntmps7
    go_wp2_with fail
    exact bodyPost_ret (v := .agg #[.int .i64 3, .slice none 0 0, .slice none 0 0, .int .i64 0]) (by simp [results, Tryd.results7, go_sem]) rfl ⟨none, 0, none, 0, rfl, LensIn.nil _ _, (Below.refl _ _).alloc (Nat.le_refl _) _⟩
  · have hd2 : decide (a < 0) = false := decide_eq_false h0
    have hd3 : decide (a > 8 * (n : Int)) = true := decide_eq_true (by omega)
    go_enter Tryd.func7, Tryd.ntmps7
    go_wp2_with fail
    exact bodyPost_ret (v := .agg #[.int .i64 3, .slice none 0 0, .slice none 0 0, .int .i64 0]) (by simp [results, Tryd.results7, go_sem]) rfl ⟨none, 0, none, 0, rfl, LensIn.nil _ _, (Below.refl _ _).alloc (Nat.le_refl _) _⟩
set_option maxRecDepth 100000 in
theorem sreadLens_long (ao : Option Addr) (cap n : Nat) (a : Int) (w : World) (hn : 65536 < n) (hn2 : n ≤ 1048576) :
    Calls Tryd.prog 5 #[.slice ao n cap, .int .i64 a] w fun e w' => LensIs 7 [] [] 0 e w w' := by
  have hd1 : decide ((n : Int) > 65536) = true := decide_eq_true (by omega)
  go_enter Tryd.func5, Tryd.ntmps5
  go_wp2_with fail
  exact bodyPost_ret (v := .agg #[.int .i64 7, .slice none 0 0, .slice none 0 0, .int .i64 0]) (by simp [results, Tryd.results5, go_sem]) rfl ⟨none, 0, none, 0, rfl, LensIn.nil _ _, (Below.refl _ _).alloc (Nat.le_refl _) _⟩
set_option maxRecDepth 100000 in
theorem sreadLens_bad (ao : Option Addr) (cap n : Nat) (a : Int) (w : World) (hn : n ≤ 65536) (ha : a < 0 ∨ 8 * (n : Int) < a) :
    Calls Tryd.prog 5 #[.slice ao n cap, .int .i64 a] w fun e w' => LensIs 3 [] [] 0 e w w' := by
  have hd1 : decide ((n : Int) > 65536) = false := decide_eq_false (by omega)
  by_cases h0 : a < 0
  · have hd2 : decide (a < 0) = true := decide_eq_true h0
    go_enter Tryd.func5, Tryd.ntmps5
    go_wp2_with fail
    exact bodyPost_ret (v := .agg #[.int .i64 3, .slice none 0 0, .slice none 0 0, .int .i64 0]) (by simp [results, Tryd.results5, go_sem]) rfl ⟨none, 0, none, 0, rfl, LensIn.nil _ _, (Below.refl _ _).alloc (Nat.le_refl _) _⟩
  · have hd2 : decide (a < 0) = false := decide_eq_false h0
    have hd3 : decide (a > 8 * (n : Int)) = true := decide_eq_true (by omega)
    go_enter Tryd.func5, Tryd.ntmps5
    go_wp2_with fail
    exact bodyPost_ret (v := .agg #[.int .i64 3, .slice none 0 0, .slice none 0 0, .int .i64 0]) (by simp [results, Tryd.results5, go_sem]) rfl ⟨none, 0, none, 0, rfl, LensIn.nil _ _, (Below.refl _ _).alloc (Nat.le_refl _) _⟩
/-- Both answer the same. -/
theorem readLens_both (zs : List Int) (a : Int) (hz : Octets zs) (hn : zs.length ≤ 1048576) (ha0 : -9223372036854775808 ≤ a) (ha1 : a ≤ 9223372036854775807) :
    ∃ (K : Int) (LS DS : List Int) (N : Int), LS.length ≤ 400 ∧ DS.length ≤ 400 ∧
      (∀ (W : World) (bo : Addr), Row W (some bo) zs → Calls Tryd.prog 5 #[.slice (some bo) zs.length zs.length, .int .i64 a] W fun e W' => LensIs K LS DS N e W W') ∧
      (∀ (W : World) (bo : Addr), Row W (some bo) zs → Glob W → Calls Tryd.prog 7 #[.slice (some bo) zs.length zs.length, .int .i64 a] W fun e W' => LensIs K LS DS N e W W') := by
  by_cases h1 : 65536 < zs.length
  · exact ⟨7, [], [], 0, by simp, by simp, fun W bo _ => sreadLens_long (some bo) _ _ a W h1 hn, fun W bo _ _ => ireadLens_long (some bo) _ _ a W h1 hn⟩
  · by_cases h2 : a < 0 ∨ 8 * (zs.length : Int) < a
    · exact ⟨3, [], [], 0, by simp, by simp, fun W bo _ => sreadLens_bad (some bo) _ _ a W (by omega) h2, fun W bo _ _ => ireadLens_bad (some bo) _ _ a W (by omega) h2⟩
    · obtain ⟨i, rfl⟩ : ∃ i : Nat, a = (i : Int) := ⟨a.toNat, by omega⟩
      obtain ⟨k, cf, hE⟩ := lc0_ends zs i
      obtain ⟨l1, l2⟩ := lRes_len hE
      refine ⟨(lRes i k cf).1, (lRes i k cf).2.1, (lRes i k cf).2.2.1, (lRes i k cf).2.2.2, l1, l2, fun W bo hr => sreadLens_any (some bo) _ zs i k cf W hr hz (by omega) (by omega) hE, fun W bo hr hG => ?_⟩
      refine Calls.mono (ireadLens_any (some bo) _ zs i W hr (fun e => by cases e) hz (by omega) (by omega) hG) ?_
      rintro e w' ⟨k', cf', hE', h⟩
      obtain ⟨rfl, rfl⟩ := hE.det hE'
      exact h
end Go.Proofs.YtlffdadmgginmaeDoor
namespace Go.Proofs.YtlffdadmgginmaeDoor
open Go.RowKit

theorem Tryd.info_u8 : (Tryd.prog.info? 5).map (fun i => (i.zero, i.size, i.bytes)) = some (some (.int .u8 0), 1, 1) := by kernel_rfl

/-- laws.toByteS. -/
theorem toByteS_any (ao : Option Addr) (cap : Nat) (zs : List Int) (w : World) (hr : Row w ao zs) (hn : zs.length ≤ 140737488355328) :
    Calls Tryd.prog 6 #[.slice ao zs.length cap] w fun e w' =>
      e = .returned (.slice (some ⟨w.heap.size, 0, none⟩) zs.length zs.length) ∧ w'.ownsRow w.heap.size 5 1 (.slice (some ⟨w.heap.size, 0, none⟩) zs.length zs.length) zs.length (zs.map (Value.int .u8)) ∧ Below w.heap.size w w' := by
  obtain ⟨i0, hi, hz0, hz1, hz2⟩ := info_parts Tryd.info_u8
  have hm : zs.length ≤ maxLen := by unfold maxLen; omega
  go_enter Tryd.func6, Tryd.ntmps6
  go_wp2_with (at_make; refine wpList_make_full _ rfl _ _ 22 rfl w.heap.size 5 i0 (.int .u8 0) 1 Tryd.underlying22 hi hz0 hz1 _ _ _ _ zs.length rfl rfl rfl rfl (by rw [hz2]; omega) hm (Nat.le_refl _) ?_)
  intro w1 hown hgrow
  rw [toList_madeCells_one] at hown
  rw [← List.map_replicate, ← copied_zero] at hown
  go_wp2_with fail
  go_loopw [4] (fun i wr => ∃ k : Nat, k ≤ zs.length ∧ i = .int .i64 k ∧ wr.ownsRow w.heap.size 5 1 (.slice (some ⟨w.heap.size, 0, none⟩) zs.length zs.length) zs.length ((copied zs k).map (Value.int .u8)) ∧ Below w.heap.size w wr) (fun i _ => zs.length - (intOf i).toNat)
  case atStart => exact ⟨0, Nat.zero_le _, rfl, hown, (Below.refl _ _).grown hgrow (Nat.le_refl _) (by simp)⟩
  case round =>
    clear hown hgrow
    obtain ⟨k, hk, rfl, hown, hbel⟩ := hrel
    by_cases hlt : k < zs.length
    · obtain ⟨b, off, rfl, hc⟩ := hr.at hlt
      have hb : b < w.heap.size := World.block_lt_of_cell? w _ (hc k hlt)
      have hcx : wr.cell? ⟨b, off + k, none⟩ = some (.int .u8 (zs.getD k 0)) := (hbel.cell (by exact hb)).trans (hc k hlt)
      have hfz := hown.frozenAt k
      have hco : ∃ u, wr.cell? ⟨w.heap.size, k, none⟩ = some u := by
        rw [hown.cellAt k (by omega)]
        exact ⟨_, List.getElem?_eq_getElem (by simp [copied_len zs k hk]; exact hlt)⟩
      obtain ⟨u, hcu⟩ := hco
      have hst := (hown.stored k (.int .u8 (zs.getD k 0))).1
      rw [copied_map zs k hlt] at hst
      have hbst := hbel.setCell (p := ⟨w.heap.size, k, none⟩) (Nat.le_refl _) (.int .u8 (zs.getD k 0))
      clear hc hown hr
      generalize zs.getD k 0 = x at *
      go_wp2_with fail
      go_roundw
      case rel => exact ⟨k + 1, by omega, by go_num, hst, hbst⟩
      case measure => simp [intOf]; omega
    · have e : k = zs.length := by omega
      subst e
      rw [copied_all] at hown
      go_wp2_with fail
      go_ret
      exact ⟨rfl, hown, hbel⟩

/-- laws.eqByteS. -/
theorem eqByteS_any (ao bo : Option Addr) (ca cb : Nat) (za zb : List Int) (w : World) (ha : Row w ao za) (hb : Row w bo zb) (hn : za.length ≤ 140737488355328) :
    Calls Tryd.prog 9 #[.slice ao za.length ca, .slice bo zb.length cb] w fun e w' => e = .returned (.bool (decide (za = zb))) ∧ ∃ q, w' = w.drewN q := by
  by_cases hl : za.length = zb.length
  · have hl' : ((za.length : Int) != (zb.length : Int)) = false := by simp [hl]
    have HL : Hid (za.length = zb.length) := hl
    clear hl
    go_enter Tryd.func9, Tryd.ntmps9
    go_wp2_with fail
    go_loopw [5] (fun i wr => ∃ k : Nat, k ≤ za.length ∧ i = .int .i64 k ∧ (∃ q, wr = w.drewN q) ∧ Hid (∀ j, j < k → za.getD j 0 = zb.getD j 0)) (fun i _ => za.length - (intOf i).toNat)
    case atStart => exact ⟨0, Nat.zero_le _, rfl, ⟨0, rfl⟩, fun j hj => absurd hj (by omega)⟩
    case round =>
      obtain ⟨k, hk, rfl, ⟨q, rfl⟩, HE⟩ := hrel
      by_cases hlt : k < za.length
      · have hltb : k < zb.length := by have := HL.out; omega
        obtain ⟨b1, o1, rfl, hc1⟩ := ha.at hlt
        obtain ⟨b2, o2, rfl, hc2⟩ := hb.at hltb
        have h1 := hc1 k hlt
        have h2 := hc2 k hltb
        clear hc1 hc2 ha hb
        by_cases he : za.getD k 0 = zb.getD k 0
        · have HN : Hid (∀ j, j < k + 1 → za.getD j 0 = zb.getD j 0) := by
            intro j hj
            rcases Nat.lt_succ_iff_lt_or_eq.1 hj with h | rfl
            · exact HE.out j h
            · exact he
          rw [← he] at h2
          generalize za.getD k 0 = x at *
          clear he HE
          go_wp2_with fail
          go_quiet (fail)
          go_wp2_with fail
          go_roundw
          case rel => exact ⟨k + 1, by omega, by go_num, ⟨_, rfl⟩, HN⟩
          case measure => simp [intOf]; omega
        · have hne : (za.getD k 0 != zb.getD k 0) = true := by simpa using he
          have hf : Hid (decide (za = zb) = false) := by
            show decide (za = zb) = false
            simp only [decide_eq_false_iff_not]
            intro h
            rw [h] at he
            exact he rfl
          generalize za.getD k 0 = x at *
          generalize zb.getD k 0 = y at *
          clear he HE
          go_wp2_with fail
          go_quiet (fail)
          go_wp2_with fail
          go_ret
          refine ⟨retb hf.out.symm, ?_⟩
          simp only [World.drewN_drewN]
          exact ⟨_, rfl⟩
      · have e : k = za.length := by omega
        have hf : Hid (decide (za = zb) = true) := by
          show decide (za = zb) = true
          rw [decide_eq_true_iff]
          refine list_eq HL.out (fun j hj => HE.out j (by omega))
        clear HE
        go_wp2_with fail
        go_ret
        exact ⟨retb hf.out.symm, q, rfl⟩
  · have hl' : ((za.length : Int) != (zb.length : Int)) = true := by simpa using (by omega : ¬ (za.length : Int) = zb.length)
    have hf : Hid (decide (za = zb) = false) := by
      show decide (za = zb) = false
      simp only [decide_eq_false_iff_not]
      intro h
      rw [h] at hl
      exact hl rfl
    clear hl
    go_enter Tryd.func9, Tryd.ntmps9
    go_wp2_with fail
    go_ret
    exact ⟨retb hf.out.symm, 0, rfl⟩

/-- laws.markByteS. -/
theorem markByteS_any (ao : Option Addr) (cap : Nat) (zs : List Int) (k : Nat) (w : World) (hr : Row w ao zs) (ho : Open w ao zs.length) (hn : zs.length ≤ 140737488355328) (hk : k ≤ 140737488355328) :
    Calls Tryd.prog 10 #[.slice ao zs.length cap, .int .i64 k] w fun e w' =>
      e = .returned (.int .i64 ((k + zs.length : Nat) : Int)) ∧ Row w' ao (marks k zs.length) ∧ Open w' ao zs.length ∧ w.grownBy w' (blk ao) ∧ w'.heap.size = w.heap.size := by
  go_enter Tryd.func10, Tryd.ntmps10
  go_wp2_with fail
  go_loopw [1, 5] (fun kk i wr => ∃ j : Nat, j ≤ zs.length ∧ kk = .int .i64 ((k + j : Nat) : Int) ∧ i = .int .i64 j ∧ Row wr ao (marked zs k j) ∧ Open wr ao zs.length ∧ w.grownBy wr (blk ao) ∧ wr.heap.size = w.heap.size) (fun _ i _ => zs.length - (intOf i).toNat)
  case atStart => exact ⟨0, Nat.zero_le _, rfl, rfl, by rw [marked_zero]; exact hr, ho, World.grownBy.refl _ _, rfl⟩
  case round =>
    clear hr ho
    obtain ⟨j, hj, rfl, rfl, hr, ho, hg, hz⟩ := hrel
    have hml := marked_len zs k j hj
    by_cases hlt : j < zs.length
    · obtain ⟨b, off, rfl, hc⟩ := hr.at (k := j) (by omega)
      have hcj := hc j (by omega)
      have hfj : wr.frozen? ⟨b, off + j, none⟩ = false := ho _ rfl j hlt
      have hr2 := hr.set (k := j) (by omega) ((((k + j : Nat) : Int)) % 256)
      rw [marked_succ zs k j hlt] at hr2
      have hg2 : w.grownBy (wr.setCell ⟨b, off + j, none⟩ (.int .u8 ((((k + j : Nat) : Int)) % 256))) (blk (some ⟨b, off, none⟩)) := grownBy_trans hg (grownBy_setCell wr ⟨b, off + j, none⟩ _)
      have ho2 : Open (wr.setCell ⟨b, off + j, none⟩ (.int .u8 ((((k + j : Nat) : Int)) % 256))) (some ⟨b, off, none⟩) zs.length := by
        intro ad e i hi
        rw [World.frozen?_setCell]
        exact ho ad e i hi
      clear hc hr ho hg hml
      generalize (marked zs k j).getD j 0 = x at *
      simp only [Int.natCast_add] at hr2 hg2 ho2
      have hz2 : (wr.setCell ⟨b, off + j, none⟩ (.int .u8 (((k : Int) + (j : Int)) % 256))).heap.size = w.heap.size := by simpa using hz
      clear hz
      go_wp2_with fail
      go_roundw
      case rel => exact ⟨j + 1, by omega, by go_num, by go_num, hr2, ho2, hg2, hz2⟩
      case measure => simp [intOf]; omega
    · have e : j = zs.length := by omega
      subst e
      rw [marked_all] at hr
      go_wp2_with fail
      go_ret
      exact ⟨by go_num, hr, ho, hg, hz⟩

/-- laws.heldByteS, at what markByteS has left. -/
theorem heldByteS_any (ao : Option Addr) (cap : Nat) (n k : Nat) (w : World) (hr : Row w ao (marks k n)) (hn : n ≤ 140737488355328) (hk : k ≤ 140737488355328) :
    Calls Tryd.prog 19 #[.slice ao n cap, .int .i64 k] w fun e w' => e = .returned (.int .i64 ((k + n : Nat) : Int)) ∧ w' = w := by
  go_enter Tryd.func19, Tryd.ntmps19
  go_wp2_with fail
  go_loop [1, 5] (fun kk i => ∃ j : Nat, j ≤ n ∧ kk = .int .i64 ((k + j : Nat) : Int) ∧ i = .int .i64 j) (fun _ i => n - (intOf i).toNat)
  case atStart => exact ⟨0, Nat.zero_le _, rfl, rfl⟩
  case round =>
    obtain ⟨j, hj, rfl, rfl⟩ := hrel
    by_cases hlt : j < n
    · obtain ⟨b, off, rfl, hc⟩ := hr.at (k := j) (by rw [marks_len]; exact hlt)
      have hcj := hc j (by rw [marks_len]; exact hlt)
      rw [marks_getD k n j hlt, Int.natCast_add] at hcj
      clear hc hr
      go_wp2_with fail
      go_round
      case rel => exact ⟨j + 1, by omega, by go_num, by go_num⟩
      case measure => simp [intOf]; omega
    · have e : j = n := by omega
      subst e
      clear hr
      go_wp2_with fail
      go_ret
      exact ⟨by go_num, rfl⟩
end Go.Proofs.YtlffdadmgginmaeDoor
namespace Go.Proofs.YtlffdadmgginmaeDoor
open Go.RowKit
attribute [local go_sem ↓] Go.wp_at_zero Go.wp_at_succ
set_option linter.unusedVariables false

theorem Row64.beneath {w w' : World} {B : Nat} {ao : Option Addr} {zs : List Int} (h : Row64 w ao zs) (hb : Below B w w') (hl : ∀ g, blk ao = some g → g < B) : Row64 w' ao zs := by
  intro i hi
  obtain ⟨b, off, e, hc⟩ := h i hi
  subst e
  exact ⟨b, off, rfl, (hb.cell (p := ⟨b, off + i, none⟩) (hl b rfl)).trans hc⟩
theorem Res4.same {w w' : World} {g : Nat} {v0 v1 v2 v3 : Value} (h : Res4 w g v0 v1 v2 v3) (hb : w'.heap[g]? = w.heap[g]?) : Res4 w' g v0 v1 v2 v3 := by
  have hc : ∀ o, w'.cell? ⟨g, o, none⟩ = w.cell? ⟨g, o, none⟩ := fun o => World.cell?_of_block (w := w) (a := ⟨g, o, none⟩) hb
  exact ⟨(hc 0).trans h.c0, (hc 1).trans h.c1, (hc 2).trans h.c2, (hc 3).trans h.c3, fun k => (World.frozen?_of_block (w := w) (a := ⟨g, k, none⟩) hb).trans (h.f k)⟩
theorem Res4.far {w w' : World} {g : Nat} {row : Option Nat} {v0 v1 v2 v3 : Value} (h : Res4 w g v0 v1 v2 v3) (hg : w.grownBy w' row) (hne : some g ≠ row) : Res4 w' g v0 v1 v2 v3 := h.same (hg.block g (World.block_lt_of_cell? _ _ h.c0) hne)
theorem lawRL_big (ao : Option Addr) (n cap : Nat) (a : Int) (w : World) (hn : n ≤ 9223372036854775807) (hbig : 1048576 < n) :
    Calls Tryd.prog 3 #[.slice ao n cap, .int .i64 a] w fun e w' => e = .returned (.bool true) ∧ Below w.heap.size w w' := by
  go_enter Tryd.func3, Tryd.ntmps3
  go_wp2_with fail
  go_ret
  exact ⟨rfl, Below.refl _ _⟩
set_option maxRecDepth 100000 in
set_option maxHeartbeats 12800000 in
theorem lawRL (ao : Option Addr) (cap : Nat) (zs : List Int) (a : Int) (w : World) (hr : Row w ao zs) (hoct : Octets zs) (hn : zs.length ≤ 1048576) (ha0 : -9223372036854775808 ≤ a) (ha1 : a ≤ 9223372036854775807) (hG : Glob w) :
    Calls Tryd.prog 3 #[.slice ao zs.length cap, .int .i64 a] w fun e w' => e = .returned (.bool true) ∧ Below w.heap.size w w' := by
  obtain ⟨K, LS, DS, N, hls, hds, hS, hI⟩ := readLens_both zs a hoct hn ha0 ha1
  have HR := hideM hr
  have HS := hideM hS
  have HI := hideM hI
  have HG := hideM hG
  have hGs := hG.sz
  clear hr hS hI hG hoct
  go_enter Tryd.func3, Tryd.ntmps3
  go_wp2_with fail
  refine (toByteS_any ao cap zs w HR.out (by omega)).mono ?_
  rintro e w1 ⟨rfl, ho1, hb1⟩
  have R1 := hideM (Row.owned ho1)
  have L1 := hideM hb1
  clear ho1 hb1
  go_wp2_with fail
  refine (HS.out w1 _ R1.out).mono ?_
  rintro e w2 ⟨aW, cW, bW, dW, rfl, hin2, hb2⟩
  have A2 := hideM hin2.o1.row
  have D2 := hideM hin2.o2.row
  have HWA := hideM (fun g (e : blk aW = some g) => hin2.o1.lies g e)
  have HWB := hideM (fun g (e : blk bW = some g) => hin2.o2.lies g e)
  have L2 := hideM (L1.out.trans (hb2.mono L1.out.size))
  have zw : w.heap.size ≤ w2.heap.size := L2.out.size
  clear hb2 hin2 L1 R1
  have E3 := hideM (res4_new w2 (.int .i64 K) (.slice aW LS.length cW) (.slice bW DS.length dW) (.int .i64 N) 25)
  have hb3 : Below w2.heap.size w2 (w2.alloc (.cells #[.int .i64 K, .slice aW LS.length cW, .slice bW DS.length dW, .int .i64 N] 25)) := (Below.refl _ _).alloc (Nat.le_refl _) _
  have W3 := E3
  have A3 := hideM (A2.out.below hb3)
  have D3 := hideM (D2.out.below hb3)
  have L3 := hideM (L2.out.trans (hb3.mono L2.out.size))
  clear E3 L2 A2 D2
  have hw3 : w2.heap.size < (w2.alloc (.cells #[.int .i64 K, .slice aW LS.length cW, .slice bW DS.length dW, .int .i64 N] 25)).heap.size := World.block_lt_of_cell? _ _ W3.out.c0
  go_upto_region 4 with fail
  generalize hW3e : (w2.alloc (.cells #[.int .i64 K, .slice aW LS.length cW, .slice bW DS.length dW, .int .i64 N] 25)) = w3 at *
  clear hW3e hb3
  go_wp2_with fail
  refine (toByteS_any ao cap zs w3 (HR.out.below L3.out) (by omega)).mono ?_
  rintro e w4 ⟨rfl, ho4, hb4⟩
  have X4 := hideM (OwnsB.mine (e := 5) ho4)
  have z4 : w3.heap.size < w4.heap.size := (X4.out.lies _ rfl).2.1
  have A4 := hideM (A3.out.below hb4)
  have D4 := hideM (D3.out.below hb4)
  have L4 := hideM (L3.out.trans (hb4.mono L3.out.size))
  have W4 := hideM (W3.out.below hb4 (World.block_lt_of_cell? _ _ W3.out.c0))
  clear ho4 hb4 L3 A3 D3 W3
  go_wp2_with fail
  refine (HI.out w4 _ X4.out.row (HG.out.below L4.out hGs)).mono ?_
  rintro e w5 ⟨aG, cG, bG, dG, rfl, hin5, hb5⟩
  have I5 := hideM hin5
  have HGA := hideM (fun g (e : blk aG = some g) => hin5.o1.lies g e)
  have HGB := hideM (fun g (e : blk bG = some g) => hin5.o2.lies g e)
  have A5 := hideM (A4.out.below hb5)
  have D5 := hideM (D4.out.below hb5)
  have X5 := hideM (X4.out.below hb5)
  have L5 := hideM (L4.out.trans (hb5.mono L4.out.size))
  have W5 := hideM (W4.out.below hb5 (World.block_lt_of_cell? _ _ W4.out.c0))
  have z5 : w4.heap.size ≤ w5.heap.size := hb5.size
  clear hb5 hin5 L4 A4 D4 W4 X4
  have E6 := hideM (res4_new w5 (.int .i64 K) (.slice aG LS.length cG) (.slice bG DS.length dG) (.int .i64 N) 25)
  have hb6 : Below w5.heap.size w5 (w5.alloc (.cells #[.int .i64 K, .slice aG LS.length cG, .slice bG DS.length dG, .int .i64 N] 25)) := (Below.refl _ _).alloc (Nat.le_refl _) _
  have G6 := E6
  have A6 := hideM (A5.out.below hb6)
  have D6 := hideM (D5.out.below hb6)
  have X6 := hideM (X5.out.below hb6)
  have L6 := hideM (L5.out.trans (hb6.mono L5.out.size))
  have W6 := hideM (W5.out.below hb6 (World.block_lt_of_cell? _ _ W5.out.c0))
  have I6 := hideM (I5.out.below hb6)
  clear E6 L5 A5 D5 X5 W5 I5
  go_upto_region 6 with fail
  have z6 : w5.heap.size < (w5.alloc (.cells #[.int .i64 K, .slice aG LS.length cG, .slice bG DS.length dG, .int .i64 N] 25)).heap.size := World.block_lt_of_cell? _ _ G6.out.c0
  generalize (w5.alloc (.cells #[.int .i64 K, .slice aG LS.length cG, .slice bG DS.length dG, .int .i64 N] 25)) = w6 at *
  clear hb6
  obtain ⟨p0, p1, p2, p3, _⟩ := G6.out
  obtain ⟨q0, q1, q2, q3, _⟩ := W6.out
  go_wp2_with fail
  clear p0 p1 p2 p3 q0 q1 q2 q3
  refine (eqLens_same K N aG bG aW bW cG dG cW dW LS DS w6 I6.out.o1.row I6.out.o2.row A6.out D6.out (by omega) (by omega)).mono ?_
  rintro e w7 ⟨rfl, hb7⟩
  have A7 := hideM (A6.out.below hb7)
  have D7 := hideM (D6.out.below hb7)
  have X7 := hideM (X6.out.below hb7)
  have L7 := hideM (L6.out.trans (hb7.mono L6.out.size))
  have W7 := hideM (W6.out.below hb7 (World.block_lt_of_cell? _ _ W6.out.c0))
  have G7 := hideM (G6.out.below hb7 (World.block_lt_of_cell? _ _ G6.out.c0))
  have I7 := hideM (I6.out.below hb7)
  have z7 : w6.heap.size ≤ w7.heap.size := hb7.size
  clear hb7 L6 A6 D6 X6 W6 G6 I6
  go_wp2_with fail
  refine (toByteS_any ao cap zs w7 (HR.out.below L7.out) (by omega)).mono ?_
  rintro e w8 ⟨rfl, ho8, hb8⟩
  have R8 := hideM (Row.owned ho8)
  have A8 := hideM (A7.out.below hb8)
  have D8 := hideM (D7.out.below hb8)
  have X8 := hideM (X7.out.below hb8)
  have L8 := hideM (L7.out.trans (hb8.mono L7.out.size))
  have W8 := hideM (W7.out.below hb8 (World.block_lt_of_cell? _ _ W7.out.c0))
  have G8 := hideM (G7.out.below hb8 (World.block_lt_of_cell? _ _ G7.out.c0))
  have I8 := hideM (I7.out.below hb8)
  have z8 : w7.heap.size ≤ w8.heap.size := hb8.size
  clear ho8 hb8 L7 A7 D7 X7 W7 G7 I7
  go_wp2_with fail
  refine (eqByteS_any _ _ _ _ zs zs w8 X8.out.row R8.out (by omega)).mono ?_
  rintro e w9 ⟨rfl, q9, e9⟩
  have hb9 : Below w8.heap.size w8 w9 := by rw [e9]; exact below_drewN' _ _ _
  rw [decide_eq_true rfl]
  have A9 := hideM (A8.out.below hb9)
  have D9 := hideM (D8.out.below hb9)
  have X9 := hideM (X8.out.below hb9)
  have L9 := hideM (L8.out.trans (hb9.mono L8.out.size))
  have W9 := hideM (W8.out.below hb9 (World.block_lt_of_cell? _ _ W8.out.c0))
  have G9 := hideM (G8.out.below hb9 (World.block_lt_of_cell? _ _ G8.out.c0))
  have I9 := hideM (I8.out.below hb9)
  have z9 : w8.heap.size ≤ w9.heap.size := hb9.size
  clear hb9 e9 L8 A8 D8 X8 W8 G8 I8 R8
  go_wp2_with fail
  refine (markByteS_any _ _ zs 1 w9 X9.out.row X9.out.free (by omega) (by omega)).mono ?_
  rintro e w10 ⟨rfl, _, _, hg10, hz10⟩
  have hb10 : Below w3.heap.size w9 w10 := (Below.refl _ _).grown hg10 (by omega) (fun k e => by simp [blk] at e; omega)
  have L10 := hideM (L9.out.trans (hb10.mono (by omega)))
  have A10 := hideM (A9.out.beneath hb10 (fun g e => by have := HWA.out g e; omega))
  have D10 := hideM (D9.out.beneath hb10 (fun g e => by have := HWB.out g e; omega))
  have W10 := hideM (W9.out.below hb10 (by omega))
  have I10 := hideM (I9.out.grown hg10 (fun k e e2 => by have := I9.out.o1.base k e2; simp [blk] at e; omega) (fun k e e2 => by have := I9.out.o2.base k e2; simp [blk] at e; omega))
  have G10 := hideM (G9.out.far hg10 (by simp [blk]; omega))
  clear hg10 hb10 L9 A9 D9 X9 W9 G9 I9
  have hk : decide (((1 + zs.length : Nat) : Int) < 0) = false := decide_eq_false (by omega)
  have hk2 : decide ((1 : Int) + (zs.length : Int) < 0) = false := decide_eq_false (by omega)
  obtain ⟨p0, p1, p2, p3, _⟩ := G10.out
  obtain ⟨q0, q1, q2, q3, _⟩ := W10.out
  have z10 : w5.heap.size < w10.heap.size := by omega
  go_wp2_with fail
  clear p0 p1 p2 p3 q0 q1 q2 q3 hk hk2
  refine (eqLens_same K N aG bG aW bW cG dG cW dW LS DS w10 I10.out.o1.row I10.out.o2.row A10.out D10.out (by omega) (by omega)).mono ?_
  rintro e w11 ⟨rfl, hb11⟩
  have A11 := hideM (A10.out.below hb11)
  have D11 := hideM (D10.out.below hb11)
  have L11 := hideM (L10.out.trans (hb11.mono L10.out.size))
  have W11 := hideM (W10.out.below hb11 (World.block_lt_of_cell? _ _ W10.out.c0))
  have G11 := hideM (G10.out.below hb11 (World.block_lt_of_cell? _ _ G10.out.c0))
  have I11 := hideM (I10.out.below hb11)
  have z11 : w10.heap.size ≤ w11.heap.size := hb11.size
  clear hb11 L10 A10 D10 W10 G10 I10
  obtain ⟨p0, p1, p2, p3, _⟩ := G11.out
  go_wp2_with fail
  clear p0 p1 p2 p3
  refine (markLens_any w4.heap.size K N aG bG cG dG LS DS w11 I11.out (by omega) (by omega) (by omega)).mono ?_
  rintro e w12 ⟨rfl, hin12, hb12, hk12⟩
  have I12 := hideM hin12
  have L12 := hideM (L11.out.trans (hb12.mono (by omega)))
  have A12 := hideM (A11.out.beneath hb12 (fun g e => by have := HWA.out g e; omega))
  have D12 := hideM (D11.out.beneath hb12 (fun g e => by have := HWB.out g e; omega))
  have W12 := hideM (W11.out.below hb12 (by omega))
  have G12 := hideM (G11.out.same (hk12 w5.heap.size (by omega) (fun e => by have := HGA.out _ e; omega) (fun e => by have := HGB.out _ e; omega)))
  have z12 : w11.heap.size ≤ w12.heap.size := hb12.size
  clear hin12 hb12 hk12 L11 A11 D11 W11 I11 G11
  obtain ⟨p0, p1, p2, p3, _⟩ := G12.out
  go_wp2_with fail
  clear p0 p1 p2 p3
  refine (heldLens_any w4.heap.size K N aG bG cG dG LS.length DS.length w12 I12.out (by omega) (by omega)).mono ?_
  rintro e w13 ⟨rfl, hb13⟩
  have A13 := hideM (A12.out.below hb13)
  have D13 := hideM (D12.out.below hb13)
  have L13 := hideM (L12.out.trans (hb13.mono L12.out.size))
  have W13 := hideM (W12.out.below hb13 (World.block_lt_of_cell? _ _ W12.out.c0))
  clear hb13 L12 A12 D12 W12 I12 G12
  have hq : decide (((1 + LS.length + DS.length : Nat) : Int) < 0) = false := decide_eq_false (by omega)
  have hq2 : decide ((1 : Int) + (LS.length : Int) + (DS.length : Int) < 0) = false := decide_eq_false (by omega)
  go_wp2_with fail
  clear hq hq2
  refine (toByteS_any ao cap zs w13 (HR.out.below L13.out) (by omega)).mono ?_
  rintro e w14 ⟨rfl, ho14, hb14⟩
  have R14 := hideM (Row.owned ho14)
  have A14 := hideM (A13.out.below hb14)
  have D14 := hideM (D13.out.below hb14)
  have L14 := hideM (L13.out.trans (hb14.mono L13.out.size))
  have W14 := hideM (W13.out.below hb14 (World.block_lt_of_cell? _ _ W13.out.c0))
  clear ho14 hb14 L13 A13 D13 W13
  go_wp2_with fail
  refine (HI.out w14 _ R14.out (HG.out.below L14.out hGs)).mono ?_
  rintro e w15 ⟨aH, cH, bH, dH, rfl, hin15, hb15⟩
  have I15 := hideM hin15
  have A15 := hideM (A14.out.below hb15)
  have D15 := hideM (D14.out.below hb15)
  have L15 := hideM (L14.out.trans (hb15.mono L14.out.size))
  have W15 := hideM (W14.out.below hb15 (World.block_lt_of_cell? _ _ W14.out.c0))
  clear hb15 hin15 L14 A14 D14 W14 R14
  have E16 := hideM (res4_new w15 (.int .i64 K) (.slice aH LS.length cH) (.slice bH DS.length dH) (.int .i64 N) 25)
  have hb16 : Below w15.heap.size w15 (w15.alloc (.cells #[.int .i64 K, .slice aH LS.length cH, .slice bH DS.length dH, .int .i64 N] 25)) := (Below.refl _ _).alloc (Nat.le_refl _) _
  have G16 := E16
  have A16 := hideM (A15.out.below hb16)
  have D16 := hideM (D15.out.below hb16)
  have L16 := hideM (L15.out.trans (hb16.mono L15.out.size))
  have W16 := hideM (W15.out.below hb16 (World.block_lt_of_cell? _ _ W15.out.c0))
  have I16 := hideM (I15.out.below hb16)
  clear E16 L15 A15 D15 W15 I15
  go_upto_region 23 with fail
  have z16 : w15.heap.size < (w15.alloc (.cells #[.int .i64 K, .slice aH LS.length cH, .slice bH DS.length dH, .int .i64 N] 25)).heap.size := World.block_lt_of_cell? _ _ G16.out.c0
  have z17 : w2.heap.size < (w15.alloc (.cells #[.int .i64 K, .slice aH LS.length cH, .slice bH DS.length dH, .int .i64 N] 25)).heap.size := World.block_lt_of_cell? _ _ W16.out.c0
  generalize (w15.alloc (.cells #[.int .i64 K, .slice aH LS.length cH, .slice bH DS.length dH, .int .i64 N] 25)) = w16 at *
  clear hb16
  obtain ⟨p0, p1, p2, p3, _⟩ := G16.out
  obtain ⟨q0, q1, q2, q3, _⟩ := W16.out
  go_wp2_with fail
  clear p0 p1 p2 p3 q0 q1 q2 q3
  refine (eqLens_same K N aH bH aW bW cH dH cW dW LS DS w16 I16.out.o1.row I16.out.o2.row A16.out D16.out (by omega) (by omega)).mono ?_
  rintro e w17 ⟨rfl, hb17⟩
  have L17 := hideM (L16.out.trans (hb17.mono L16.out.size))
  clear hb17 L16
  go_wp2_with fail
  go_ret
  exact ⟨rfl, L17.out⟩
end Go.Proofs.YtlffdadmgginmaeDoor
namespace Go.Proofs.YtlffdadmgginmaeDoor.fnExactReadLens
open Go.ChangeShapes Go.WideShapes Go.ChangeAt Go.RowKit Go.Joins
open Go.ChangeMaps (open_string shut_string)
set_option linter.unusedVariables false

theorem own : ownKnob Tryd.prog.godebug = none := by kernel_rfl
theorem laidOut : laidOutB Tryd.prog = true := by kernel_rfl
/-- What the walk is told of a slice of bytes that came in. -/
def IsRow (w : World) (a : Option Addr) (cap : Nat) (zs : List Int) : Prop :=
  zs.length ≤ cap ∧ cap ≤ maxLen ∧ (a = none → cap = 0) ∧ Row w a zs ∧ Octets zs

theorem open_row {H : Type} {enc : TypeId × Value → H} {W : World} {base : Nat} {sp : Nat → Bool} {held : Bool} {fuel : Nat} {cs : List Value} {x : DataW H × List MemPlace} (hf : DataW.trod enc Tryd.prog W base sp held fuel 22 cs = some x) :
    ∃ a cap zs, cs = [.slice a zs.length cap] ∧ IsRow W a cap zs := by
  rcases open_ints Tryd.underlying22 Tryd.underlying5 (by kernel_rfl) hf with ⟨hcs, _⟩ | ⟨x, l, c, zs, hcs, _, hl, hm, hz, _, hcell, hwz⟩
  · exact ⟨none, 0, [], hcs, Nat.le_refl _, Nat.zero_le _, fun _ => rfl, Row.nil _ _, fun z hz => by cases hz⟩
  · have hlz : l ≤ zs.length := by rw [hz]; split <;> omega
    have e1 : (zs.take l).length = l := by rw [List.length_take]; omega
    refine ⟨some x, c, zs.take l, by rw [e1]; exact hcs, by rw [e1]; exact hl, hm, fun e => (by cases e), ?_, ?_⟩
    · intro i hi
      rw [e1] at hi
      obtain ⟨b, off, spot⟩ := x
      have hc := hcell i (by omega)
      have hspot : spot = none := by
        have h0 := hcell 0 (by omega)
        simpa [Addr.add] using World.cell?_spot h0
      subst hspot
      refine ⟨b, off, rfl, ?_⟩
      rw [Addr.add_lit] at hc
      rw [hc]
      simp [List.getD, hi]
    · intro z hz
      exact bounds_u8 (hwz z (List.mem_of_mem_take hz))

/-! ### THE WALK -/

/-! ### WHAT THE LISTED VARIABLES GIVE -/
theorem oneRow : ((List.range Tryd.prog.types.size).filter fun t => Tryd.prog.rowNamed t [101, 114, 114, 111, 114]) = [93] := by kernel_rfl
theorem c1 : Tryd.prog.cellsOf 2 = 1 := by kernel_rfl
theorem ordAt (k : Nat) (h : k < 19) (l : List (DataW Unit)) (hl : DataW.agg l = Rows.laid_loop_example_s02972_impl_codeOrder) : l[k]? = some (.lit (.int .i64 ((ord19 k : Nat) : Int))) := by
  have hl2 : l = [.lit (.int .i64 16), .lit (.int .i64 17), .lit (.int .i64 18), .lit (.int .i64 0), .lit (.int .i64 8), .lit (.int .i64 7), .lit (.int .i64 9), .lit (.int .i64 6), .lit (.int .i64 10), .lit (.int .i64 5), .lit (.int .i64 11), .lit (.int .i64 4), .lit (.int .i64 12), .lit (.int .i64 3), .lit (.int .i64 13), .lit (.int .i64 2), .lit (.int .i64 14), .lit (.int .i64 1), .lit (.int .i64 15)] := by
    unfold Rows.laid_loop_example_s02972_impl_codeOrder at hl
    injection hl
  subst hl2
  have h3 : k = 0 ∨ k = 1 ∨ k = 2 ∨ k = 3 ∨ k = 4 ∨ k = 5 ∨ k = 6 ∨ k = 7 ∨ k = 8 ∨ k = 9 ∨ k = 10 ∨ k = 11 ∨ k = 12 ∨ k = 13 ∨ k = 14 ∨ k = 15 ∨ k = 16 ∨ k = 17 ∨ k = 18 := by omega
  rcases h3 with rfl | rfl | rfl | rfl | rfl | rfl | rfl | rfl | rfl | rfl | rfl | rfl | rfl | rfl | rfl | rfl | rfl | rfl | rfl <;> rfl
theorem of_laid {W : World} (h : laidMetH Tryd.prog Rows.fnExactReadLensRow.laid W) : Glob W := by
  have h' : laidMet Tryd.prog (Rows.fnExactReadLensRow.laid.filter fun x => x.2.handleName?.isNone) W ∧ handlesMet Tryd.prog (Rows.fnExactReadLensRow.laid.filter fun x => x.2.handleName?.isSome) W := h
  obtain ⟨hd, hh⟩ := h'
  have hg0 : W.cell? ⟨1, 0, none⟩ = some (.iface 192 (.agg #[.pointer (some ⟨3, 93, none⟩)])) := by
    obtain ⟨name, u, ty, e1, e2, e3, e4, e5⟩ := hh _ (List.mem_singleton.2 rfl)
    have en : name = [101, 114, 114, 111, 114] := (Option.some.inj e1).symm
    subst en
    obtain rfl : u = 192 := Option.some.inj (e2.symm.trans (by kernel_rfl))
    have hm : ty ∈ (List.range Tryd.prog.types.size).filter fun t => Tryd.prog.rowNamed t [101, 114, 114, 111, 114] := List.mem_filter.2 ⟨List.mem_range.2 e3, e4⟩
    rw [oneRow] at hm
    obtain rfl := List.mem_singleton.1 hm
    have hh : typeHandle Tryd.prog 93 = .pointer (some ⟨3, 93, none⟩) := by kernel_rfl
    rw [hh] at e5
    simpa using World.var?_cell (g := 1) (by kernel_rfl) e5 0
  obtain ⟨ps, ⟨g, t, cs, fuel, p, q, hg, ht, hv, hdt, _, _⟩, _, _⟩ := hd
  obtain rfl : g = 2 := Option.some.inj (hg.symm.trans (by kernel_rfl))
  obtain rfl : t = 55 := Option.some.inj (ht.symm.trans (by kernel_rfl))
  have hg1 : ∀ k, k < 19 → W.cell? ⟨2, k, none⟩ = some (.int .i64 (ord19 k : Nat)) := by
    intro k hk
    obtain ⟨xs, m, rfl, hx, hlen, hn, hel⟩ := DataW.trod_array Tryd.underlying55 hdt
    simp only [Prod.mk.injEq] at hx
    have ho := ordAt k hk _ hx.1.symm
    rw [List.getElem?_map] at ho
    have h1 := hel k hk
    cases hxk : xs[k]? with
    | none => rw [hxk] at ho; cases ho
    | some y =>
      rw [hxk] at ho h1
      obtain ⟨n, e1, e2, _⟩ := DataW.trod_int Tryd.underlying2 h1
      rw [e2] at ho
      have hnk : n = ((ord19 k : Nat) : Int) := by
        simp only [Option.map_some, Option.some.injEq, DataW.lit.injEq, Lit.int.injEq, true_and] at ho
        exact ho
      rw [c1] at e1
      rw [World.var?_cell hg hv k, ← Array.getElem?_toList]
      have h2 : (cs.toList.drop (k * 1)).take 1 = [.int .i64 n] := e1
      rw [Nat.mul_one] at h2
      have h3 : ((cs.toList.drop k).take 1)[0]? = some (.int .i64 n) := by rw [h2]; rfl
      rw [List.getElem?_take_of_lt (by decide), List.getElem?_drop, Nat.add_zero] at h3
      rw [h3, hnk]
  refine ⟨?_, hg0, hg1⟩
  have b0 := World.block_lt_of_cell? W _ hg0
  have b1 := World.block_lt_of_cell? W _ (hg1 0 (by decide))
  dsimp only at b0 b1
  omega
/-- The door's own heap meets the condition. -/
theorem door_met (os : Os) (args : Array Value) : laidMetH Tryd.prog Rows.fnExactReadLensRow.laid ((World.doorLaid Tryd.prog 400 os).forCall (fun _ _ => 0) ⟨#[], args, []⟩).memory :=
  laidMetH_of_parts (laidMet_of_run' 8 (by kernel_rfl) (by kernel_rfl)) (by kernel_rfl)

theorem walk (a0 : Option Addr) (cap0 : Nat) (z0 : List Int) (a1 : Int) (w : World) (w0 : IsRow w a0 cap0 z0) (w1 : (Lit.int .i64 a1).wf = true) (hG : Glob w) :
    Calls Tryd.prog 3 #[.slice a0 z0.length cap0, .int .i64 a1] w fun e w' => e = .returned (.bool true) ∧ Below w.heap.size w w' := by
  obtain ⟨h1, h2, h3, h4, h5⟩ := w0
  by_cases hn : z0.length ≤ 1048576
  · have hw := bounds_i64 w1
    exact lawRL a0 cap0 z0 a1 w h4 h5 hn hw.1 hw.2 hG
  · exact lawRL_big a0 z0.length cap0 a1 w (by unfold maxLen at h2; omega) (by omega)

/-! ### THE ROW's STEP -/
set_option maxRecDepth 100000 in
theorem lifted (os : Os) (started : os.Started) (H : Type) (enc : TypeId × Value → H) :
    ReturnsInHanded {} Tryd.checked os 3 .any (fun w args => (Rows.fnExactReadLensSpec.pre enc Tryd.prog Tryd.f3 [] false w args ∧ laidMetH Tryd.prog Rows.fnExactReadLensRow.laid w) ∧ sizedMet enc Tryd.prog Tryd.f3 (OpenSpec.ofChange Rows.fnExactReadLensSpec) false w args)
      (Rows.fnExactReadLensSpec.post enc Tryd.prog Tryd.f3 false true false false) := by
  refine returnsInHanded_of_change_and (C := Tryd.checked) (X := fun w _ => laidMetH Tryd.prog Rows.fnExactReadLensRow.laid w) (fun _ _ _ hh h => h.of_heap hh) own started (by kernel_rfl) Tryd.func3
    (ChangeSpec.witness_shaped (enc := enc) (C := Tryd.checked) (os := os) (X := fun w _ => laidMetH Tryd.prog Rows.fnExactReadLensRow.laid w) false (World.doorLaid Tryd.prog 400 os) #[.slice none 0 0, .int .i64 0] 8 rfl (World.shaped_of_RefB (by kernel_rfl) (by kernel_rfl)) (by kernel_rfl) (by kernel_rfl) (by kernel_rfl) (door_met os _)) ?_
  intro W base args ds gs before hval0 hW _ _ hL _
  have hval : ∀ (j : Nat) t v, Tryd.f3.params[j]? = some t → args[j]? = some v → Value.okWide Tryd.prog W .any base t v := hval0
  have hW' := hW
  obtain ⟨p, q, hA0, hV0, rfl, hfz, hnd⟩ := hW
  have hA : DataW.TrodAll enc Tryd.prog W 0 (fun _ => true) true Tryd.f3.params.toList args.toList ds p := hA0
  have hV : DataW.TrodVars enc Tryd.prog W (fun _ => true) Rows.fnExactReadLensSpec.vars gs q := hV0
  rw [Tryd.params3] at hA hval
  obtain ⟨v0, vs0, d0, ds0, p0, q0, hargs, rfl, rfl, h0, r0⟩ := trodAll_cons hA
  obtain ⟨v1, vs1, d1, ds1, p1, q1, rfl, rfl, rfl, h1, r1⟩ := trodAll_cons r0
  obtain ⟨rfl, rfl, rfl⟩ := trodAll_nil r1
  obtain rfl : args = #[v0, v1] := by cases args; simp_all
  have k0 := h0
  have lt0 : ∀ x ∈ p0, x.block < W.heap.size := by obtain ⟨m, hm⟩ := k0; exact DataW.trod_lt m _ _ _ hm
  obtain ⟨aa0, len0, cc0, rfl⟩ := okWide_slice Tryd.underlying22 (hval 0 22 v0 rfl rfl)
  obtain ⟨a0, cap0, z0, e00, w0⟩ : ∃ a cap zs, [Value.slice aa0 len0 cc0] = [.slice a zs.length cap] ∧ IsRow W a cap zs := by
    obtain ⟨fuel, hf⟩ := h0
    exact open_row (by simpa [Value.cells] using hf)
  simp only [List.cons.injEq, and_true, Value.slice.injEq] at e00
  obtain ⟨rfl, rfl, rfl⟩ := e00
  obtain ⟨a1, rfl, rfl, rfl, w1⟩ := open_int Tryd.underlying2 (hval 1 2 v1 rfl rfl) h1
  have hG := of_laid hL
  obtain ⟨gd, rfl⟩ : ∃ gd, gs = [gd] := by
    obtain ⟨_, _, _, _, d, _, e, _⟩ := trodVars_one (n := Rows.fnExactReadLensSpec.vars.headD Rows.fnExactReadLensSpec.name) hV
    exact ⟨d, e⟩
  clear hA0 hval0
  refine (walk _ _ z0 a1 W w0 w1 hG).mono fun e W' ⟨he, bel⟩ => ?_
  subst he
  exact ⟨_, rfl, _, _, _, [], _, _, hW', trodAll_mk1 (shut_bool Tryd.underlying4 _), (trodAll_cons_mk (Below.trod laidOut (by kernel_rfl) (of_decide_eq_true (by kernel_rfl)) k0 bel lt0) (trodAll_cons_mk (shut_int Tryd.underlying2 w1) trodAll_mk0)), Below.trodVars laidOut bel (by kernel_rfl) hV, bel.frame _, fun h => by cases h⟩

theorem over : Rows.FnExactReadLensSaid :=
  OpenClaim.holds_of_wide 3 Tryd.f3 rfl rfl rfl rfl rfl rfl rfl ⟨rfl, rfl, rfl, rfl, rfl⟩ rfl rfl rfl rfl rfl (by kernel_rfl) Tryd.func3 (by kernel_rfl)
    (of_decide_eq_true (by kernel_rfl)) (by unfold Func.isWrapper; first | (rw [if_pos (by decide +kernel)]; kernel_rfl) | (rw [if_neg (by decide +kernel)]; exact ⟨rfl, rfl⟩))
    (fun os started H enc _ => lifted os started H enc)

theorem looks (f : FuncId) (fn : Func) (hf : Tryd.prog.funcNamed Rows.fnExactReadLensRow.func = some f) (hfn : Tryd.prog.funcs[f]? = some fn) : true = Tryd.prog.looks [] ∧ ∀ (j : Nat) t, fn.params[j]? = some t → Tryd.prog.wantsStandIn t = false := by
  obtain rfl : f = 3 := Option.some.inj ((show Tryd.prog.funcNamed Rows.fnExactReadLensRow.func = some 3 by kernel_rfl).symm.trans hf) |>.symm
  obtain rfl : fn = Tryd.f3 := (Option.some.inj (Tryd.func3.symm.trans hfn)).symm
  refine ⟨by kernel_rfl, fun j t ht => ?_⟩
  rw [Tryd.params3] at ht
  have hm : t ∈ [22, 2] := by simpa using Array.mem_of_getElem? ht
  have hall : ([22, 2].all fun u => !Tryd.prog.wantsStandIn u) = true := by kernel_rfl
  exact (show Tryd.prog.wantsStandIn t = false by simpa using List.all_eq_true.1 hall t hm)
/-- THE CARD -/
theorem proved : Rows.FnExactReadLensCardSaid :=
  ⟨Claim7.tied_new_at .later [.handle, .data] true (Claim7.new_of_sixth over Rows.fnExactReadLensCard.stood.harness true rfl ⟨rfl, rfl⟩ (by kernel_rfl) (by kernel_rfl) looks) (by kernel_rfl), (fun D hD => by cases hD), fnExactReadLens_row_tie, (fun h => by cases h), by kernel_rfl⟩
#print axioms proved
end Go.Proofs.YtlffdadmgginmaeDoor.fnExactReadLens
