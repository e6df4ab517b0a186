import Derived.Deep.MidRow
import Derived.BigRegion
import Derived.Deep.RegionHeld3
import Derived.Laws.CopyOwn
import Derived.Deep.RegionLaw
import Derived.Deep.AppendLies
import Derived.Deep.Cut
import Derived.Test.YtlffdadmgginmaeDoorMA
import Derived.Test.YtlffdadmgginmaeDoorMB
namespace Go.Proofs.YtlffdadmgginmaeDoor
open Go.RowKit
attribute [local go_sem ↓] Go.wp_at_zero Go.wp_at_succ
set_option linter.unusedVariables false

/-- The function of a state. -/
def lfn (s : Nat) : Nat := if s = 0 then 24 else if s = 1 then 52 else if s = 2 then 78 else if s = 3 then 97 else if s = 4 then 126 else 141
/-- The next state as a value. -/
def lnow (q : Nat) (rdy : Value) (s : Nat) : Value := if s ≤ 5 then .func (Fn.func (lfn s)) #[.pointer (some ⟨q, 0, none⟩)] #[] else rdy
/-- What a state answers. -/
def LPost (q p hB : Nat) (zs : List Int) (rdy : Value) (r : LC ⊕ (Int × LC)) (e : Ending) (w w' : World) : Prop :=
  (∀ c', r = .inl c' → e = .returned (.tuple #[lnow q rdy c'.st, .nilIface]) ∧ LMem q p hB zs rdy w' c' ∧ Trod q p w w') ∧ (∀ k cf, r = .inr (k, cf) → ∃ v, e = .returned (.tuple #[v, flt k]) ∧ LMem q p hB zs rdy w' cf ∧ Trod q p w w')
theorem LPost.ok {q p hB : Nat} {zs : List Int} {rdy : Value} {c' : LC} {w w' : World} {v : Value} (hv : v = lnow q rdy c'.st) (hM : LMem q p hB zs rdy w' c') (hT : Trod q p w w') : LPost q p hB zs rdy (.inl c') (.returned (.tuple #[v, .nilIface])) w w' := by
  subst hv
  refine ⟨fun c h => ?_, fun k cf h => ?_⟩
  · injection h with h; subst h; exact ⟨rfl, hM, hT⟩
  · cases h
theorem LPost.no {q p hB : Nat} {zs : List Int} {rdy : Value} {k : Int} {cf : LC} {w w' : World} {v : Value} (hM : LMem q p hB zs rdy w' cf) (hT : Trod q p w w') : LPost q p hB zs rdy (.inr (k, cf)) (.returned (.tuple #[v, flt k])) w w' := by
  refine ⟨fun c h => ?_, fun k' cf' h => ?_⟩
  · cases h
  · injection h with h; injection h with h1 h2; subst h1; subst h2; exact ⟨v, rfl, hM, hT⟩
theorem LMem.at {q p hB : Nat} {zs : List Int} {rdy : Value} {w : World} {c : LC} (h : LMem q p hB zs rdy w c) (s : Nat) (h1 : 1 ≤ s → s ≤ 3 → 1 ≤ c.st ∧ c.st ≤ 3) (h4 : 4 ≤ s → 4 ≤ c.st) : LMem q p hB zs rdy w { c with st := s } := by
  obtain ⟨B, v, b1, b2, b3, b4, b5, b6, b7, b8⟩ := h.own
  exact ⟨h.ne, h.neh, h.two, h.rd, h.c0, h.c1, h.num, h.c25, h.c28, h.free, ⟨B, v, b1, b2, b3, b4, b5, b6, (fun x y => b7 (h1 x y).1 (h1 x y).2), (fun x => b8 (h4 x))⟩, h.g0, h.g1⟩
/-- codeCount. -/
def codeCountS (zs : List Int) (c : LC) : LC ⊕ (Int × LC) := if c.i + 4 ≤ 8 * zs.length then .inl { c with st := 3, i := c.i + 4, f := upd c.f 4 ((field (bnum zs) c.i 4 : Nat) + 4) } else .inr (2, c)
/-- distCount. -/
def distCountS (zs : List Int) (c : LC) : LC ⊕ (Int × LC) :=
  if c.i + 5 ≤ 8 * zs.length then
    if ((field (bnum zs) c.i 5 : Nat) : Int) + 1 > 30 then .inr (3, { c with i := c.i + 5, f := upd c.f 3 ((field (bnum zs) c.i 5 : Nat) + 1) }) else .inl { c with st := 2, i := c.i + 5, f := upd c.f 3 ((field (bnum zs) c.i 5 : Nat) + 1) }
  else .inr (2, c)
theorem field_small (x i n : Nat) (hn : n ≤ 7) : field x i n < 128 := Nat.lt_of_lt_of_le (field_lt _ _ _) (show 2 ^ n ≤ 128 from Nat.pow_le_pow_right (n := 2) (by decide) hn)
set_option maxRecDepth 100000 in
set_option maxHeartbeats 3200000 in
theorem codeCount_any (q p hB : Nat) (zs : List Int) (rdy : Value) (c : LC) (w : World) (hM : LMem q p hB zs rdy w c) (hs : c.st = 2) (hz : Octets zs) (hzl : zs.length ≤ 65536) :
    Calls Tryd.prog 78 #[.pointer (some ⟨q, 0, none⟩)] w fun e w' => LPost q p hB zs rdy (codeCountS zs c) e w w' := by
  have hqw := hM.lt
  have HM := hideM hM
  have HS := hideM hs
  clear hs
  unfold codeCountS
  by_cases hn : c.i + 4 ≤ 8 * zs.length
  · rw [if_pos hn]
    have HN := hideM (number_yes q p hB zs c.i 4 w hM.c0 hM.rd hz hzl (by decide) hn)
    have hF := field_small (bnum zs) c.i 4 (by decide)
    generalize field (bnum zs) c.i 4 = F at *
    clear hM hn
    go_enter Tryd.func78, Tryd.ntmps78
    go_wp2_with fail
    refine Calls.mono HN.out ?_
    rintro e w1 ⟨rfl, hR, hg⟩
    have hM1 := HM.out.went hR hg
    have HM2 := hideM ((hM1.set 4 (by unfold isNum; omega) ((F : Int) + 4)).at 3 (fun _ _ => by rw [show ({ c with i := c.i + 4, f := upd c.f 4 ((F : Int) + 4) } : LC).st = c.st from rfl, HS.out]; omega) (fun h => by omega))
    have HT2 := hideM ((Trod.num HM.out.ne hqw hg).trans (Trod.set 4 (.int .i64 ((F : Int) + 4)) (by decide)))
    have q4 := hM1.num 4 (by unfold isNum; omega)
    have f4 := hM1.free 4
    have hq1 := hM1.lt
    clear hM1 hR hg HN HM
    go_wp2_with fail
    exact bodyPost_ret (v := .tuple #[.func (Fn.func 97) #[.pointer (some ⟨q, 0, none⟩)] #[], .nilIface]) (by simp [results, Tryd.results78, go_sem]) rfl (LPost.ok rfl HM2.out HT2.out)
  · rw [if_neg hn]
    have HN := hideM (number_no q p hB zs c.i 4 w hM.c0 hM.rd hzl (by decide) hn)
    clear hM hn
    unfold flt at HN
    go_enter Tryd.func78, Tryd.ntmps78
    go_wp2_with fail
    refine Calls.mono HN.out ?_
    rintro e w1 ⟨rfl, hb⟩
    have HM2 := hideM (HM.out.went (HM.out.rd.below hb) (grownBy_of_below hb (some p)))
    have HT2 := hideM (Trod.below (p := p) hqw hb)
    clear hb HN HM
    go_wp2_with fail
    exact bodyPost_ret (v := .tuple #[.nilFunc, flt 2]) (by simp [results, Tryd.results78, go_sem, flt]) rfl (LPost.no HM2.out HT2.out)
end Go.Proofs.YtlffdadmgginmaeDoor
namespace Go.Proofs.YtlffdadmgginmaeDoor
open Go.RowKit
attribute [local go_sem ↓] Go.wp_at_zero Go.wp_at_succ
set_option linter.unusedVariables false

set_option maxRecDepth 100000 in
set_option maxHeartbeats 3200000 in
theorem distCount_any (q p hB : Nat) (zs : List Int) (rdy : Value) (c : LC) (w : World) (hM : LMem q p hB zs rdy w c) (hs : c.st = 1) (hz : Octets zs) (hzl : zs.length ≤ 65536) :
    Calls Tryd.prog 52 #[.pointer (some ⟨q, 0, none⟩)] w fun e w' => LPost q p hB zs rdy (distCountS zs c) e w w' := by
  have hqw := hM.lt
  have HM := hideM hM
  have HS := hideM hs
  clear hs
  unfold distCountS
  by_cases hn : c.i + 5 ≤ 8 * zs.length
  · rw [if_pos hn]
    have HN := hideM (number_yes q p hB zs c.i 5 w hM.c0 hM.rd hz hzl (by decide) hn)
    have hF := field_small (bnum zs) c.i 5 (by decide)
    generalize field (bnum zs) c.i 5 = F at *
    clear hM hn
    by_cases hx : (F : Int) + 1 > 30
    · rw [if_pos hx]
      have hxb : decide ((F : Int) + 1 > 30) = true := decide_eq_true hx
      go_enter Tryd.func52, Tryd.ntmps52
      go_wp2_with fail
      refine Calls.mono HN.out ?_
      rintro e w1 ⟨rfl, hR, hg⟩
      have hM1 := HM.out.went hR hg
      have HM2 := hideM ((hM1.set 3 (by unfold isNum; omega) ((F : Int) + 1)).at 2 (fun _ _ => by rw [show ({ c with i := c.i + 5, f := upd c.f 3 ((F : Int) + 1) } : LC).st = c.st from rfl, HS.out]; omega) (fun h => by omega))
      have HT2 := hideM ((Trod.num HM.out.ne hqw hg).trans (Trod.set 3 (.int .i64 ((F : Int) + 1)) (by decide)))
      have q3 := hM1.num 3 (by unfold isNum; omega)
      have f3 := hM1.free 3
      have hq1 := hM1.lt
      have HM3 := hideM (hM1.set 3 (by unfold isNum; omega) ((F : Int) + 1))
      clear hM1 hR hg HN HM
      go_wp2_with fail
      exact bodyPost_ret (v := .tuple #[.nilFunc, flt 3]) (by simp [results, Tryd.results52, go_sem, flt]) rfl (LPost.no HM3.out HT2.out)
    · rw [if_neg hx]
      have hxb : decide ((F : Int) + 1 > 30) = false := decide_eq_false hx
      go_enter Tryd.func52, Tryd.ntmps52
      go_wp2_with fail
      refine Calls.mono HN.out ?_
      rintro e w1 ⟨rfl, hR, hg⟩
      have hM1 := HM.out.went hR hg
      have HM2 := hideM ((hM1.set 3 (by unfold isNum; omega) ((F : Int) + 1)).at 2 (fun _ _ => by rw [show ({ c with i := c.i + 5, f := upd c.f 3 ((F : Int) + 1) } : LC).st = c.st from rfl, HS.out]; omega) (fun h => by omega))
      have HT2 := hideM ((Trod.num HM.out.ne hqw hg).trans (Trod.set 3 (.int .i64 ((F : Int) + 1)) (by decide)))
      have q3 := hM1.num 3 (by unfold isNum; omega)
      have f3 := hM1.free 3
      have hq1 := hM1.lt
      clear hM1 hR hg HN HM
      go_wp2_with fail
      exact bodyPost_ret (v := .tuple #[.func (Fn.func 78) #[.pointer (some ⟨q, 0, none⟩)] #[], .nilIface]) (by simp [results, Tryd.results52, go_sem]) rfl (LPost.ok rfl HM2.out HT2.out)
  · rw [if_neg hn]
    have HN := hideM (number_no q p hB zs c.i 5 w hM.c0 hM.rd hzl (by decide) hn)
    clear hM hn
    unfold flt at HN
    go_enter Tryd.func52, Tryd.ntmps52
    go_wp2_with fail
    refine Calls.mono HN.out ?_
    rintro e w1 ⟨rfl, hb⟩
    have HM2 := hideM (HM.out.went (HM.out.rd.below hb) (grownBy_of_below hb (some p)))
    have HT2 := hideM (Trod.below (p := p) hqw hb)
    clear hb HN HM
    go_wp2_with fail
    exact bodyPost_ret (v := .tuple #[.nilFunc, flt 2]) (by simp [results, Tryd.results52, go_sem, flt]) rfl (LPost.no HM2.out HT2.out)
end Go.Proofs.YtlffdadmgginmaeDoor
namespace Go.Proofs.YtlffdadmgginmaeDoor
open Go.RowKit
attribute [local go_sem ↓] Go.wp_at_zero Go.wp_at_succ
set_option linter.unusedVariables false

/-- Nineteen zeros. -/
def Z19 : List Value := [.int .i64 0, .int .i64 0, .int .i64 0, .int .i64 0, .int .i64 0, .int .i64 0, .int .i64 0, .int .i64 0, .int .i64 0, .int .i64 0, .int .i64 0, .int .i64 0, .int .i64 0, .int .i64 0, .int .i64 0, .int .i64 0, .int .i64 0, .int .i64 0, .int .i64 0]
def clr (f : Nat → Int) : Nat → Int := fun j => if 5 ≤ j ∧ j ≤ 23 then 0 else f j
theorem Z19_at (j : Nat) (h : j < Z19.length) : Z19[j] = .int .i64 0 := by
  have h2 : j < 19 := h
  have h3 : j = 0 ∨ j = 1 ∨ j = 2 ∨ j = 3 ∨ j = 4 ∨ j = 5 ∨ j = 6 ∨ j = 7 ∨ j = 8 ∨ j = 9 ∨ j = 10 ∨ j = 11 ∨ j = 12 ∨ j = 13 ∨ j = 14 ∨ j = 15 ∨ j = 16 ∨ j = 17 ∨ j = 18 := by omega
  rcases h3 with rfl | rfl | rfl | rfl | rfl | rfl | rfl | rfl | rfl | rfl | rfl | rfl | rfl | rfl | rfl | rfl | rfl | rfl | rfl <;> rfl
/-- What a write to other cells of the machine keeps: numbers aside. -/
theorem LMem.put {q p hB : Nat} {zs : List Int} {rdy : Value} {w w' : World} {c : LC} {f' : Nat → Int} (h : LMem q p hB zs rdy w c) (hg : w.grownBy w' (some q)) (hc : ∀ o, ¬ isNum o → w'.cell? ⟨q, o, none⟩ = w.cell? ⟨q, o, none⟩) (hf : ∀ o, w'.frozen? ⟨q, o, none⟩ = w.frozen? ⟨q, o, none⟩)
    (hn : ∀ k, isNum k → w'.cell? ⟨q, k, none⟩ = some (.int .i64 (f' k))) : LMem q p hB zs rdy w' { c with f := f' } := by
  have hq := h.lt
  obtain ⟨B, v, b1, b2, b3, b4, b5, b6, b7, b8⟩ := h.own
  refine ⟨h.ne, h.neh, h.two, h.rd.grown hg (by simp; exact Ne.symm h.ne) (by simp; exact h.neh), (hc 0 (by unfold isNum; omega)).trans h.c0, ?_, hn, ?_, (hc 28 (by unfold isNum; omega)).trans h.c28, ?_, ?_, ?_, ?_⟩
  · obtain ⟨old, ho⟩ := h.c1
    exact ⟨old, (hc 1 (by unfold isNum; omega)).trans ho⟩
  · obtain ⟨old, ho⟩ := h.c25
    exact ⟨old, (hc 25 (by unfold isNum; omega)).trans ho⟩
  · intro j
    rw [hf]
    exact h.free j
  · refine ⟨B, v, b1, b2, b3, Nat.le_trans b4 hg.size, (hc 26 (by unfold isNum; omega)).trans b5, ?_, b7, ?_⟩
    · refine b6.kept hg ?_
      obtain ⟨_, hx⟩ := b6
      rcases hx with ⟨rfl, _⟩ | ⟨g, cap, cur, rfl, hb, _⟩
      · exact .inl rfl
      · refine .inr ?_
        simp [Value.ownBlock]
        omega
    · intro hs
      obtain ⟨t, S, m, L, w0, h1, h2, h3, h4, h5, h6⟩ := b8 hs
      refine ⟨t, S, m, L, w0, (hc 25 (by unfold isNum; omega)).trans h1, h2, h3, h4, h5, fun j k1 k2 => ?_⟩
      rw [← h6 j k1 k2]
      exact hg.block j (by omega) (by simp; omega)
  · exact hg.cell h.g0 (by simp; have := h.two; omega)
  · exact fun k hk => hg.cell (h.g1 k hk) (by simp; have := h.two; omega)
theorem LMem.zeros {q p hB : Nat} {zs : List Int} {rdy : Value} {w : World} {c : LC} (h : LMem q p hB zs rdy w c) : LMem q p hB zs rdy (w.setCells q 5 Z19) { c with f := clr c.f } := by
  have hl : Z19.length = 19 := rfl
  refine h.put (grownBy_setCells q Z19 5 w) ?_ ?_ ?_
  · intro o ho
    refine World.cell?_setCells_out q Z19 5 w ⟨q, o, none⟩ (fun _ _ => ?_)
    unfold isNum at ho
    show o < 5 ∨ 5 + Z19.length ≤ o
    omega
  · intro o
    exact World.frozen?_setCells q Z19 5 w ⟨q, o, none⟩
  · intro k hk
    by_cases hm : 5 ≤ k ∧ k ≤ 23
    · have h1 := World.cell?_setCells_in q Z19 5 w (fun j hj => by rw [h.num (5 + j) (by unfold isNum; omega)]; rfl) (k - 5) (by omega)
      rw [show 5 + (k - 5) = k from by omega] at h1
      rw [h1, Z19_at]
      simp [clr, hm]
    · rw [World.cell?_setCells_out q Z19 5 w ⟨q, k, none⟩ (fun _ _ => by show k < 5 ∨ 5 + Z19.length ≤ k; omega), h.num k hk]
      simp [clr, hm]
theorem Trod.zeros {q p : Nat} {w : World} : Trod q p w (w.setCells q 5 Z19) := by
  have hl : Z19.length = 19 := rfl
  have hc : ∀ o, 26 ≤ o → (w.setCells q 5 Z19).cell? ⟨q, o, none⟩ = w.cell? ⟨q, o, none⟩ := fun o ho => World.cell?_setCells_out q Z19 5 w ⟨q, o, none⟩ (fun _ _ => by show o < 5 ∨ 5 + Z19.length ≤ o; omega)
  have hg := grownBy_setCells q Z19 5 w
  refine ⟨hg.os, hg.tape, hg.output, hg.size, ?_, (fun o ho => hc o (by omega)), (fun v k h1 h2 => .inr ⟨v, (hc 26 (by omega)) ▸ h1, h2⟩)⟩
  intro j hj h1 _ _
  exact hg.block j hj (by simpa using h1)
/-- The lengths are taken away. -/
theorem LMem.bare {q p hB : Nat} {zs : List Int} {rdy : Value} {w : World} {c : LC} (h : LMem q p hB zs rdy w c) (s : Nat) (hs : s ≤ 3) : LMem q p hB zs rdy (w.setCell ⟨q, 26, none⟩ (.slice none 0 0)) { c with st := s, lens := [] } := by
  have hq := h.lt
  have hg := grownBy_setCell w ⟨q, 26, none⟩ (.slice none 0 0)
  have hc : ∀ o, o ≠ 26 → (w.setCell ⟨q, 26, none⟩ (.slice none 0 0)).cell? ⟨q, o, none⟩ = w.cell? ⟨q, o, none⟩ := fun o ho => World.cell?_setCell_other _ _ _ _ (by first | (simp; done) | (simp; omega))
  obtain ⟨B, v, b1, b2, b3, b4, b5, b6, b7, b8⟩ := h.own
  refine ⟨h.ne, h.neh, h.two, h.rd.grown hg (by simp; exact Ne.symm h.ne) (by simp; exact h.neh), (hc 0 (by omega)).trans h.c0, ?_, ?_, ?_, (hc 28 (by omega)).trans h.c28, ?_, ?_, ?_, ?_⟩
  · obtain ⟨old, ho⟩ := h.c1
    exact ⟨old, (hc 1 (by omega)).trans ho⟩
  · intro j hj
    rw [hc j (by unfold isNum at hj; omega)]
    exact h.num j hj
  · obtain ⟨old, ho⟩ := h.c25
    exact ⟨old, (hc 25 (by omega)).trans ho⟩
  · intro j
    rw [World.frozen?_setCell]
    exact h.free j
  · refine ⟨B, .slice none 0 0, b1, b2, b3, Nat.le_trans b4 hg.size, World.cell?_setCell_same _ _ _ b5, ⟨rfl, .inl ⟨rfl, rfl⟩⟩, (fun _ _ => rfl), (fun h4 => ?_)⟩
    have : 4 ≤ s := h4
    omega
  · exact hg.cell h.g0 (by simp; have := h.two; omega)
  · exact fun k hk => hg.cell (h.g1 k hk) (by simp; have := h.two; omega)
theorem Trod.bare {q p : Nat} {w : World} {v : Value} (hv : w.cell? ⟨q, 26, none⟩ = some v) : Trod q p w (w.setCell ⟨q, 26, none⟩ (.slice none 0 0)) := by
  have hg := grownBy_setCell w ⟨q, 26, none⟩ (.slice none 0 0)
  refine ⟨hg.os, hg.tape, hg.output, hg.size, ?_, (fun o ho => World.cell?_setCell_other _ _ _ _ (by first | (simp; done) | (simp; omega))), ?_⟩
  · intro j hj h1 _ _
    exact hg.block j hj (by simpa using h1)
  · intro v' k h1 h2
    rw [World.cell?_setCell_same _ _ _ hv] at h1
    cases h1
    cases h2
end Go.Proofs.YtlffdadmgginmaeDoor
namespace Go.Proofs.YtlffdadmgginmaeDoor
open Go.RowKit
attribute [local go_sem ↓] Go.wp_at_zero Go.wp_at_succ
set_option linter.unusedVariables false

/-- litCount. -/
def litCountS (zs : List Int) (c : LC) : LC ⊕ (Int × LC) :=
  if c.i + 5 ≤ 8 * zs.length then
    if ((field (bnum zs) c.i 5 : Nat) : Int) + 257 > 286 then .inr (3, { c with i := c.i + 5, f := upd c.f 2 ((field (bnum zs) c.i 5 : Nat) + 257) }) else .inl { c with st := 1, i := c.i + 5, f := upd (clr (upd c.f 2 ((field (bnum zs) c.i 5 : Nat) + 257))) 24 0, lens := [] }
  else .inr (2, c)
theorem Tryd.size_19 : (Tryd.prog.info? 55).map (·.size) = some 19 := by kernel_rfl
theorem Z19_one : Z19.toArray.all (·.oneCell') = true := all_oneCell_toArray (by intro v hv; simp [Z19] at hv; subst hv; rfl)
theorem Z19_size : Z19.toArray.size = 19 := rfl
theorem LMem.there {q p hB : Nat} {zs : List Int} {rdy : Value} {w : World} {c : LC} (h : LMem q p hB zs rdy w c) : w.there q 5 19 := by
  intro j hj
  exact ⟨by rw [h.num (5 + j) (by unfold isNum; omega)]; rfl, h.free _⟩
set_option maxRecDepth 100000 in
set_option maxHeartbeats 800000 in
theorem litCount_any (q p hB : Nat) (zs : List Int) (rdy : Value) (c : LC) (w : World) (hM : LMem q p hB zs rdy w c) (hs : c.st = 0) (hz : Octets zs) (hzl : zs.length ≤ 65536) :
    Calls Tryd.prog 24 #[.pointer (some ⟨q, 0, none⟩)] w fun e w' => LPost q p hB zs rdy (litCountS zs c) e w w' := by
  have hqw := hM.lt
  have HM := hideM hM
  have HS := hideM hs
  clear hs
  unfold litCountS
  by_cases hn : c.i + 5 ≤ 8 * zs.length
  · rw [if_pos hn]
    have HN := hideM (number_yes q p hB zs c.i 5 w hM.c0 hM.rd hz hzl (by decide) hn)
    have hF := field_small (bnum zs) c.i 5 (by decide)
    generalize field (bnum zs) c.i 5 = F at *
    clear hM hn
    by_cases hx : (F : Int) + 257 > 286
    · rw [if_pos hx]
      have hxb : decide ((F : Int) + 257 > 286) = true := decide_eq_true hx
      go_enter Tryd.func24, Tryd.ntmps24
      go_wp2_with fail
      refine Calls.mono HN.out ?_
      rintro e w1 ⟨rfl, hR, hg⟩
      have hM1 := HM.out.went hR hg
      have HM3 := hideM (hM1.set 2 (by unfold isNum; omega) ((F : Int) + 257))
      have HT2 := hideM ((Trod.num HM.out.ne hqw hg).trans (Trod.set 2 (.int .i64 ((F : Int) + 257)) (by decide)))
      have q2 := hM1.num 2 (by unfold isNum; omega)
      have f2 := hM1.free 2
      have hq1 := hM1.lt
      clear hM1 hR hg HN HM
      go_wp2_with fail
      exact bodyPost_ret (v := .tuple #[.nilFunc, flt 3]) (by simp [results, Tryd.results24, go_sem, flt]) rfl (LPost.no HM3.out HT2.out)
    · rw [if_neg hx]
      have hxb : decide ((F : Int) + 257 > 286) = false := decide_eq_false hx
      go_enter Tryd.func24, Tryd.ntmps24
      go_wp2_with fail
      refine Calls.mono HN.out ?_
      rintro e w1 ⟨rfl, hR, hg⟩
      have hM1 := HM.out.went hR hg
      have hM2 := hM1.set 2 (by unfold isNum; omega) ((F : Int) + 257)
      have HT2 := (Trod.num HM.out.ne hqw hg).trans (Trod.set (p := p) (q := q) 2 (.int .i64 ((F : Int) + 257)) (by decide))
      have q2 := hM1.num 2 (by unfold isNum; omega)
      have f2 := hM1.free 2
      have q2' := hM2.num 2 (by unfold isNum; omega)
      simp only [upd, if_pos] at q2'
      have hq1 := hM1.lt
      have HM2 := hideM hM2
      have HU2 := hideM HT2
      clear hM1 hM2 hR hg HN HM HT2
      go_upto_region 7 with fail
      clear q2 f2 hq1
      generalize w1.setCell ⟨q, 2, none⟩ (.int .i64 ((F : Int) + 257)) = w2 at *
      have hM2 := HM2.out
      have hth := hM2.there
      have hsz := Tryd.size_19
      have hon := Z19_one
      rw [← Z19_size] at hth hsz
      have hM3 := hM2.zeros
      have c24 := hM3.num 24 (by unfold isNum; omega)
      have f24 := hM3.free 24
      have f26 := hM3.free 26
      have hq3 := hM3.lt
      have hM4 := hM3.set 24 (by unfold isNum; omega) 0
      have HM5 := hideM (hM4.bare 1 (by decide))
      have hT4 : Trod q p w ((w2.setCells q 5 Z19).setCell ⟨q, 24, none⟩ (.int .i64 0)) := (HU2.out.trans Trod.zeros).trans (Trod.set 24 (.int .i64 0) (by decide))
      have ⟨v26, c26⟩ : ∃ v, (w2.setCells q 5 Z19).cell? ⟨q, 26, none⟩ = some v := by
        obtain ⟨_, v, _, _, _, _, hv, _⟩ := hM3.own
        exact ⟨v, hv⟩
      have HT5 := hideM (hT4.trans (Trod.bare ((World.cell?_setCell_other _ ⟨q, 24, none⟩ ⟨q, 26, none⟩ _ (by simp)).trans c26)))
      have hq2 := hM2.lt
      obtain ⟨K, hK⟩ : ∃ K, Z19 = K := ⟨_, rfl⟩
      rw [hK] at hth hsz hon c24 f24 f26 c26 HM5 HT5 hq3
      have HK := hideM hK
      have HTH := hideM hth
      have HSZ := hideM hsz
      have HON := hideM hon
      clear hth hsz hon hK hM2 hM3 hM4 hT4 HM2 HU2
      go_wp2_with (refine wpList_store_mid rfl 55 _ _ rfl q 5 K.toArray rfl (by rw [← HK.out]; rfl) HTH.out HSZ.out HON.out ?_)
      exact bodyPost_ret (v := .tuple #[.func (Fn.func 52) #[.pointer (some ⟨q, 0, none⟩)] #[], .nilIface]) (by simp [results, Tryd.results24, go_sem]) rfl (LPost.ok rfl HM5.out HT5.out)
  · rw [if_neg hn]
    have HN := hideM (number_no q p hB zs c.i 5 w hM.c0 hM.rd hzl (by decide) hn)
    clear hM hn
    unfold flt at HN
    go_enter Tryd.func24, Tryd.ntmps24
    go_wp2_with fail
    refine Calls.mono HN.out ?_
    rintro e w1 ⟨rfl, hb⟩
    have HM2 := hideM (HM.out.went (HM.out.rd.below hb) (grownBy_of_below hb (some p)))
    have HT2 := hideM (Trod.below (p := p) hqw hb)
    clear hb HN HM
    go_wp2_with fail
    exact bodyPost_ret (v := .tuple #[.nilFunc, flt 2]) (by simp [results, Tryd.results24, go_sem, flt]) rfl (LPost.no HM2.out HT2.out)
end Go.Proofs.YtlffdadmgginmaeDoor
namespace Go.Proofs.YtlffdadmgginmaeDoor
open Go.RowKit
attribute [local go_sem ↓] Go.wp_at_zero Go.wp_at_succ
set_option linter.unusedVariables false

set_option maxRecDepth 100000 in
set_option maxHeartbeats 6400000 in
theorem ikind_any (ao : Option Addr) (cap : Nat) (zs : List Int) (w : World) (hr : Row64 w ao zs) (hn : zs.length ≤ 1048576) :
    Calls Tryd.prog 124 #[.slice ao zs.length cap] w fun e w' => e = .returned (.int .i64 (hk zs)) ∧ Below w.heap.size w w' := by
  have HC := hideH (countLens_any ao cap zs w hr hn)
  clear hr
  go_enter Tryd.func124, Tryd.ntmps124
  go_wp2_with fail
  refine Calls.mono HC.out ?_
  rintro e w1 ⟨⟨L, rfl, hlen, hone, hcnt⟩, hb1⟩
  have hN := Cnts.new w1 150
  have hsz : (Tryd.prog.info? 150).map (·.size) = some L.length := by rw [hlen]; exact Tryd.size_cnts
  have hth : (w1.alloc (.cells #[.int .i64 0, .int .i64 0, .int .i64 0, .int .i64 0, .int .i64 0, .int .i64 0, .int .i64 0, .int .i64 0, .int .i64 0, .int .i64 0, .int .i64 0, .int .i64 0, .int .i64 0, .int .i64 0, .int .i64 0, .int .i64 0] 150)).there w1.heap.size 0 L.length := by rw [hlen]; exact hN.there
  have hrg := World.rangeAt_setCells_same _ w1.heap.size 0 L hth
  have hb2 : Below w.heap.size w ((w1.alloc (.cells #[.int .i64 0, .int .i64 0, .int .i64 0, .int .i64 0, .int .i64 0, .int .i64 0, .int .i64 0, .int .i64 0, .int .i64 0, .int .i64 0, .int .i64 0, .int .i64 0, .int .i64 0, .int .i64 0, .int .i64 0, .int .i64 0] 150)).setCells w1.heap.size 0 L) := (hb1.alloc hb1.size _).grown (grownBy_setCells w1.heap.size L 0 _) (hb1.alloc hb1.size _).size (by intro q e; simp at e; have := hb1.size; omega)
  have HON := hideH (all_oneCell_toArray hone)
  have HB2 := hideH hb2
  have HLN := hideH hlen
  have HCN := hideH hcnt
  have hz1 := hb1.size
  clear hN HC hb1 hb2 hone hcnt hlen
  by_cases hok : okB zs = true
  · have hLc := HCN.out hok
    have HK := hideH (fun W => kindc_any (cnt zs) L W HLN.out (by rw [hLc]; exact cells16_at _) (fun i => Nat.le_trans (cnt_le _ _) (okB_ok hok).1))
    have HKH := hideH (kindF_hk hok)
    rw [hok]
    clear hLc
    go_wp2_with (first | (refine wpList_store_mid rfl _ _ _ rfl w1.heap.size 0 L.toArray rfl rfl (by simpa using hth) (by simpa using hsz) HON.out ?_) | (refine wpList_load_mid rfl _ _ rfl _ _ rfl L _ hrg Tryd.underlying150 rfl hsz ?_))
    refine Calls.mono (HK.out _) ?_
    rintro e w2 ⟨rfl, hb3⟩
    rw [HKH.out]
    have hbE := HB2.out.trans (hb3.mono HB2.out.size)
    clear hb3 HK
    go_wp2_with fail
    go_ret
    exact ⟨rfl, hbE⟩
  · have hok : okB zs = false := by simpa using hok
    have HF : Hid (0 = hk zs) := by show _ = _; rw [hk, hok]; rfl
    rw [hok]
    go_wp2_with (first | (refine wpList_store_mid rfl _ _ _ rfl w1.heap.size 0 L.toArray rfl rfl (by simpa using hth) (by simpa using hsz) HON.out ?_) | (refine wpList_load_mid rfl _ _ rfl _ _ rfl L _ hrg Tryd.underlying150 rfl hsz ?_))
    go_ret
    exact ⟨reti HF.out, HB2.out⟩

end Go.Proofs.YtlffdadmgginmaeDoor
namespace Go.Proofs.YtlffdadmgginmaeDoor
open Go.RowKit
attribute [local go_sem ↓] Go.wp_at_zero Go.wp_at_succ
set_option linter.unusedVariables false

theorem LMem.below {q p hB : Nat} {zs : List Int} {rdy : Value} {w w' : World} {c : LC} (h : LMem q p hB zs rdy w c) (hb : Below w.heap.size w w') : LMem q p hB zs rdy w' c := h.went (h.rd.below hb) (grownBy_of_below hb (some p))
/-- The lengths of the code of lengths. -/
def cl19 (f : Nat → Int) : List Int := (List.range 19).map fun k => f (5 + k)
theorem cl19_len (f : Nat → Int) : (cl19 f).length = 19 := by simp [cl19]
theorem LMem.row19 {q p hB : Nat} {zs : List Int} {rdy : Value} {w : World} {c : LC} (h : LMem q p hB zs rdy w c) : Row64 w (some ⟨q, 5, none⟩) (cl19 c.f) := by
  intro i hi
  rw [cl19_len] at hi
  refine ⟨q, 5, rfl, ?_⟩
  rw [h.num (5 + i) (by unfold isNum; omega)]
  simp [cl19, List.getD_eq_getElem?_getD, hi]
/-- The table is laid. -/
theorem LMem.tabled {q p hB : Nat} {zs : List Int} {rdy : Value} {w : World} {c : LC} {tb : List Int} {t m : Nat} {S : Nat → Nat × Nat} {L : Nat → Nat → Nat × Nat} (h : LMem q p hB zs rdy w c) (h1 : 1 ≤ c.st) (h3 : c.st ≤ 3) (hT : TabOf tb w t S m L) (hqt : q < t) (hpt : p < t) :
    LMem q p hB zs rdy (w.setCell ⟨q, 25, none⟩ (.pointer (some ⟨t, 0, none⟩))) { c with st := 4, tb := tb } := by
  have hq := h.lt
  have hg := grownBy_setCell w ⟨q, 25, none⟩ (.pointer (some ⟨t, 0, none⟩))
  have hc : ∀ o, o ≠ 25 → (w.setCell ⟨q, 25, none⟩ (.pointer (some ⟨t, 0, none⟩))).cell? ⟨q, o, none⟩ = w.cell? ⟨q, o, none⟩ := fun o ho => World.cell?_setCell_other _ _ _ _ (by first | (simp; done) | (simp; omega))
  obtain ⟨B, v, b1, b2, b3, b4, b5, b6, b7, b8⟩ := h.own
  obtain ⟨old, ho⟩ := h.c25
  have h25 := World.cell?_setCell_same w ⟨q, 25, none⟩ (.pointer (some ⟨t, 0, none⟩)) ho
  refine ⟨h.ne, h.neh, h.two, h.rd.grown hg (by simp; exact Ne.symm h.ne) (by simp; exact h.neh), (hc 0 (by omega)).trans h.c0, ?_, ?_, ⟨_, h25⟩, (hc 28 (by omega)).trans h.c28, ?_, ?_, ?_, ?_⟩
  · obtain ⟨old, ho⟩ := h.c1
    exact ⟨old, (hc 1 (by omega)).trans ho⟩
  · intro j hj
    rw [hc j (by unfold isNum at hj; omega)]
    exact h.num j hj
  · intro j
    rw [World.frozen?_setCell]
    exact h.free j
  · have hv := b7 h1 h3
    subst hv
    refine ⟨w.heap.size, .slice none 0 0, by omega, by omega, by omega, hg.size, (hc 26 (by omega)).trans b5, ?_, (fun _ _ => rfl), (fun _ => ?_)⟩
    · obtain ⟨x1, x2⟩ := b6
      rcases x2 with ⟨_, x3⟩ | ⟨g, _, _, x3, _⟩
      · exact ⟨x1, .inl ⟨rfl, x3⟩⟩
      · cases x3
    · exact ⟨t, S, m, L, w, h25, hT, hqt, hpt, Nat.le_refl _, fun k k1 k2 => hg.block k k2 (by simp; omega)⟩
  · exact hg.cell h.g0 (by simp; have := h.two; omega)
  · exact fun k hk => hg.cell (h.g1 k hk) (by simp; have := h.two; omega)
end Go.Proofs.YtlffdadmgginmaeDoor
namespace Go.Proofs.YtlffdadmgginmaeDoor
open Go.RowKit
attribute [local go_sem ↓] Go.wp_at_zero Go.wp_at_succ
set_option linter.unusedVariables false

/-- The numbers behind one more length of the code of lengths. -/
def cl1 (f : Nat → Int) (F : Nat) : Nat → Int := upd (upd f (5 + ord19 (f 24).toNat) (F : Int)) 24 (f 24 + 1)
/-- codeLen. -/
def codeLenS (zs : List Int) (c : LC) : LC ⊕ (Int × LC) :=
  if c.i + 3 ≤ 8 * zs.length then
    if c.f 24 + 1 < c.f 4 then .inl { c with st := 3, i := c.i + 3, f := cl1 c.f (field (bnum zs) c.i 3) }
    else if hk (cl19 (cl1 c.f (field (bnum zs) c.i 3))) = 1 then .inl { c with st := 4, i := c.i + 3, f := cl1 c.f (field (bnum zs) c.i 3), tb := cl19 (cl1 c.f (field (bnum zs) c.i 3)) }
    else .inr (3, { c with i := c.i + 3, f := cl1 c.f (field (bnum zs) c.i 3) })
  else .inr (2, c)
theorem ord19_le (k : Nat) (h : k < 19) : ord19 k < 19 := by
  have h3 : k = 0 ∨ k = 1 ∨ k = 2 ∨ k = 3 ∨ k = 4 ∨ k = 5 ∨ k = 6 ∨ k = 7 ∨ k = 8 ∨ k = 9 ∨ k = 10 ∨ k = 11 ∨ k = 12 ∨ k = 13 ∨ k = 14 ∨ k = 15 ∨ k = 16 ∨ k = 17 ∨ k = 18 := by omega
  rcases h3 with rfl | rfl | rfl | rfl | rfl | rfl | rfl | rfl | rfl | rfl | rfl | rfl | rfl | rfl | rfl | rfl | rfl | rfl | rfl <;> decide
set_option maxRecDepth 100000 in
set_option maxHeartbeats 1600000 in
theorem codeLen_any (q p hB : Nat) (zs : List Int) (rdy : Value) (c : LC) (k : Nat) (w : World) (hM : LMem q p hB zs rdy w c) (hs : c.st = 3) (hk : c.f 24 = (k : Int)) (hk19 : k < 19) (hz : Octets zs) (hzl : zs.length ≤ 65536) (r : LC ⊕ (Int × LC)) (hr : codeLenS zs c = r) :
    Calls Tryd.prog 97 #[.pointer (some ⟨q, 0, none⟩)] w fun e w' => LPost q p hB zs rdy r e w w' := by
  have hqw := hM.lt
  have HM := hideM hM
  have HS := hideM hs
  have HR := hideM hr
  have HK := hideM hk
  clear hs hr hk
  by_cases hn : c.i + 3 ≤ 8 * zs.length
  · have HN := hideM (number_yes q p hB zs c.i 3 w hM.c0 hM.rd hz hzl (by decide) hn)
    have hF := field_small (bnum zs) c.i 3 (by decide)
    have HIN := hideM hn
    obtain ⟨F, hFe⟩ : ∃ F, field (bnum zs) c.i 3 = F := ⟨_, rfl⟩
    rw [hFe] at HN hF
    have HF := hideM hFe
    clear hM hn hFe
    go_enter Tryd.func97, Tryd.ntmps97
    go_wp2_with fail
    refine Calls.mono HN.out ?_
    rintro e w1 ⟨rfl, hR, hg⟩
    have hM1 := HM.out.went hR hg
    have c24 : w1.cell? ⟨q, 24, none⟩ = some (.int .i64 (k : Int)) := by
      rw [hM1.num 24 (by unfold isNum; omega)]
      show some (Value.int .i64 (c.f 24)) = _
      rw [HK.out]
    have g1 := hM1.g1 k hk19
    have ho := ord19_le k hk19
    have cO := hM1.num (5 + ord19 k) (by unfold isNum; omega)
    have fO := hM1.free (5 + ord19 k)
    have hq1 := hM1.lt
    have h2 := hM1.two
    have HO : Hid (ord19 k = ord19 k) := rfl
    generalize hog : ord19 k = o at *
    have HOG := hideM hog
    have HM1 := hideM hM1
    have HT1 := hideM (Trod.num HM.out.ne hqw hg)
    clear hM1 hR hg HN HM hog HO
    go_upto_region 4 with fail
    go_region
    go_upto_region 5 with fail
    have hM2 := (HM1.out.set (5 + o) (by unfold isNum; omega) (F : Int)).below ((Below.refl _ _).drew)
    have hT2 : Trod q p w (w1.setCell ⟨q, 5 + o, none⟩ (.int .i64 (F : Int))).drew := (HT1.out.trans (Trod.set (5 + o) (.int .i64 (F : Int)) (by omega))).trans (Trod.below hM2.lt ((Below.refl _ _).drew))
    generalize (w1.setCell ⟨q, 5 + o, none⟩ (.int .i64 (F : Int))).drew = w2 at *
    have d24 : w2.cell? ⟨q, 24, none⟩ = some (.int .i64 (k : Int)) := by
      rw [hM2.num 24 (by unfold isNum; omega)]
      show some (Value.int .i64 (upd c.f (5 + o) F 24)) = _
      rw [upd, if_neg (by omega), HK.out]
    have d4 : w2.cell? ⟨q, 4, none⟩ = some (.int .i64 (c.f 4)) := by
      rw [hM2.num 4 (by unfold isNum; omega)]
      show some (Value.int .i64 (upd c.f (5 + o) F 4)) = _
      rw [upd, if_neg (by omega)]
    have f24 := hM2.free 24
    have hq2 := hM2.lt
    have hM3 := (hM2.set 24 (by unfold isNum; omega) ((k : Int) + 1)).below ((Below.refl _ _).drew)
    have HT3 : Hid (Trod q p w (w2.setCell ⟨q, 24, none⟩ (.int .i64 ((k : Int) + 1))).drew) := (hT2.trans (Trod.set 24 (.int .i64 ((k : Int) + 1)) (by omega))).trans (Trod.below hM3.lt ((Below.refl _ _).drew))
    have hf3 : cl1 c.f F = upd (upd c.f (5 + o) F) 24 ((k : Int) + 1) := by
      unfold cl1
      rw [HK.out, Int.toNat_natCast, HOG.out]
    have HM3 : Hid (LMem q p hB zs rdy (w2.setCell ⟨q, 24, none⟩ (.int .i64 ((k : Int) + 1))).drew { c with i := c.i + 3, f := cl1 c.f F }) := by
      show LMem q p hB zs rdy _ _
      rw [hf3]
      exact hM3
    have HC : Hid (codeLenS zs c = if (k : Int) + 1 < c.f 4 then .inl { c with st := 3, i := c.i + 3, f := cl1 c.f F } else if hk (cl19 (cl1 c.f F)) = 1 then .inl { c with st := 4, i := c.i + 3, f := cl1 c.f F, tb := cl19 (cl1 c.f F) } else .inr (3, { c with i := c.i + 3, f := cl1 c.f F })) := by
      show _ = _
      unfold codeLenS
      rw [if_pos HIN.out, HF.out, HK.out]
    clear hM2 hM3 hT2 hf3 c24 g1 cO fO hq1 HM1 HT1 HOG ho
    generalize c.f 4 = n4 at *
    go_upto_region 6 with fail
    by_cases hlt : (k : Int) + 1 < n4
    · have hltb : decide ((k : Int) + 1 < n4) = true := decide_eq_true hlt
      have HX : Hid (r = .inl { c with st := 3, i := c.i + 3, f := cl1 c.f F }) := by
        show _ = _
        rw [← HR.out, HC.out, if_pos hlt]
      have HM4 := hideM (HM3.out.at 3 (fun _ _ => by show 1 ≤ c.st ∧ c.st ≤ 3; rw [HS.out]; omega) (fun h => by omega))
      go_region
      go_wp2_with fail
      exact bodyPost_ret (v := .tuple #[.func (Fn.func 97) #[.pointer (some ⟨q, 0, none⟩)] #[], .nilIface]) (by simp [results, Tryd.results97, go_sem]) rfl (by rw [HX.out]; exact LPost.ok rfl HM4.out HT3.out)
    · have hltb : decide ((k : Int) + 1 < n4) = false := decide_eq_false hlt
      have HY : Hid (r = if hk (cl19 (cl1 c.f F)) = 1 then .inl { c with st := 4, i := c.i + 3, f := cl1 c.f F, tb := cl19 (cl1 c.f F) } else .inr (3, { c with i := c.i + 3, f := cl1 c.f F })) := by
        show _ = _
        rw [← HR.out, HC.out, if_neg hlt]
      go_region
      go_upto_region 8 with fail
      generalize (w2.setCell ⟨q, 24, none⟩ (.int .i64 ((k : Int) + 1))).drew = w3 at *
      clear d24 d4 f24 hq2 HC hlt hltb
      have HKI := hideM (ikind_any (some ⟨q, 5, none⟩) 19 (cl19 (cl1 c.f F)) w3 HM3.out.row19 (by rw [cl19_len]; decide))
      rw [cl19_len] at HKI
      have hq3 := HM3.out.lt
      go_wp2_with fail
      refine Calls.mono HKI.out ?_
      rintro e w4 ⟨rfl, hb4⟩
      have hM4 := HM3.out.below hb4
      have hT4 := HT3.out.trans (Trod.below hq3 hb4)
      have HM4 := hideM hM4
      have HT4 := hideM hT4
      have HCO := hideM (icodes_any (some ⟨q, 5, none⟩) 19 (cl19 (cl1 c.f F)) w4 hM4.row19 (by rw [cl19_len]; decide))
      rw [cl19_len] at HCO
      have hq4 := hM4.lt
      clear hM4 hT4 HKI hb4 HM3 HT3
      by_cases hk1 : hk (cl19 (cl1 c.f F)) = 1
      · rw [hk1]
        have HX : Hid (r = .inl { c with st := 4, i := c.i + 3, f := cl1 c.f F, tb := cl19 (cl1 c.f F) }) := by
          show _ = _
          rw [HY.out, if_pos hk1]
        clear HY hk1
        generalize cl19 (cl1 c.f F) = ls at *
        go_wp2_with fail
        refine Calls.mono HCO.out ?_
        rintro e w5 ⟨⟨bo, bc, rfl, hRH⟩, hb5⟩
        have HNT := hideM (newTab_of ls bo bc w5 hRH.reads)
        have hM5 := HM4.out.below hb5
        have HM5 := hideM hM5
        have HT5 := hideM (HT4.out.trans (Trod.below hq4 hb5))
        have hq5 := hM5.lt
        clear hM5 HCO hRH hb5 HM4 HT4
        go_wp2_with fail
        refine Calls.mono HNT.out ?_
        rintro e w6 ⟨t, S, m, L, rfl, ht, hTab, hb6⟩
        have hM6 := HM5.out.below hb6
        obtain ⟨old, c25⟩ := hM6.c25
        have f25 := hM6.free 25
        have hp5 := HM5.out.rd.lt
        have HM7 := hideM (hM6.tabled (by show 1 ≤ c.st; rw [HS.out]; decide) (by show c.st ≤ 3; rw [HS.out]; decide) hTab (by omega) (by omega))
        have HT7 := hideM ((HT5.out.trans (Trod.below hq5 hb6)).trans (Trod.set 25 (.pointer (some ⟨t, 0, none⟩)) (by decide)))
        have hq6 := hM6.lt
        clear hM6 hTab hb6 HNT HM5 HT5
        go_wp2_with fail
        exact bodyPost_ret (v := .tuple #[.func (Fn.func 126) #[.pointer (some ⟨q, 0, none⟩)] #[], .nilIface]) (by simp [results, Tryd.results97, go_sem]) rfl (by rw [HX.out]; exact LPost.ok rfl HM7.out HT7.out)
      · have HX : Hid (r = .inr (3, { c with i := c.i + 3, f := cl1 c.f F })) := by
          show _ = _
          rw [HY.out, if_neg hk1]
        clear HY HCO
        generalize hk (cl19 (cl1 c.f F)) = h at *
        have hhb : (h == 1) = false := by simp [hk1]
        have hhn : (h != 1) = true := by simp [hk1]
        go_wp2_with fail
        exact bodyPost_ret (v := .tuple #[.nilFunc, flt 3]) (by simp [results, Tryd.results97, go_sem, flt]) rfl (by rw [HX.out]; exact LPost.no HM4.out HT4.out)
  · have HN := hideM (number_no q p hB zs c.i 3 w hM.c0 hM.rd hzl (by decide) hn)
    have HX : Hid (r = .inr (2, c)) := by
      show _ = _
      rw [← HR.out, codeLenS, if_neg hn]
    clear hM hn
    unfold flt at HN
    go_enter Tryd.func97, Tryd.ntmps97
    go_wp2_with fail
    refine Calls.mono HN.out ?_
    rintro e w1 ⟨rfl, hb⟩
    have HM2 := hideM (HM.out.below hb)
    have HT2 := hideM (Trod.below (p := p) hqw hb)
    clear hb HN HM
    go_wp2_with fail
    exact bodyPost_ret (v := .tuple #[.nilFunc, flt 2]) (by simp [results, Tryd.results97, go_sem, flt]) rfl (by rw [HX.out]; exact LPost.no HM2.out HT2.out)
end Go.Proofs.YtlffdadmgginmaeDoor
namespace Go.Proofs.YtlffdadmgginmaeDoor
open Go.RowKit
attribute [local go_sem ↓] Go.wp_at_zero Go.wp_at_succ
set_option linter.unusedVariables false

set_option maxRecDepth 100000 in
set_option maxHeartbeats 1600000 in
theorem both_any (q g n cap l : Nat) (w : World) (h26 : w.cell? ⟨q, 26, none⟩ = some (.slice (some ⟨g, 0, none⟩) n cap)) (h2 : w.cell? ⟨q, 2, none⟩ = some (.int .i64 (l : Int))) (hl : l < n) (hn : n ≤ cap) (hb : n ≤ 1000) :
    Calls Tryd.prog 26 #[.pointer (some ⟨q, 0, none⟩)] w fun e w' => e = .returned (.tuple #[.slice (some ⟨g, 0, none⟩) l cap, .slice (some ⟨g, l, none⟩) (n - l) (cap - l)]) ∧ Below w.heap.size w w' := by
  have hqw : q < w.heap.size := World.block_lt_of_cell? w _ h26
  have h1 : ((l : Int) ≤ (n : Int)) := by omega
  have h3 : ((l : Int) ≤ (cap : Int)) := by omega
  have h4 : ¬ cap = l := by omega
  have h5 : ¬ l = cap := by omega
  have h6 : l ≤ cap := by omega
  have h7 : l ≤ n := by omega
  go_enter Tryd.func26, Tryd.ntmps26
  go_upto_region 1 with fail
  go_region
  go_wp2_with fail
  exact bodyPost_ret (v := .tuple #[.slice (some ⟨g, 0, none⟩) l cap, .slice (some ⟨g, l, none⟩) (n - l) (cap - l)]) (by simp [results, Tryd.results26, go_sem]) rfl ⟨rfl, (Below.refl _ _).drew⟩
/-- What checkLens asks of both lists. -/
abbrev chk (ls ds : List Int) : Prop := ls.getD 256 0 ≠ 0 ∧ (hk ls = 1 ∨ hk ls = 4) ∧ (hk ds = 1 ∨ hk ds = 4 ∨ hk ds = 5)
theorem Row64.takeN {w : World} {g : Nat} {zs : List Int} (h : Row64 w (some ⟨g, 0, none⟩) zs) (l : Nat) : Row64 w (some ⟨g, 0, none⟩) (zs.take l) := by
  intro i hi
  rw [List.length_take] at hi
  obtain ⟨b, off, e, hc⟩ := h i (by omega)
  refine ⟨b, off, e, ?_⟩
  rw [hc, List.getD_eq_getElem?_getD, List.getD_eq_getElem?_getD, List.getElem?_take_of_lt (by omega)]
theorem Row64.dropN {w : World} {g : Nat} {zs : List Int} (h : Row64 w (some ⟨g, 0, none⟩) zs) (l : Nat) : Row64 w (some ⟨g, l, none⟩) (zs.drop l) := by
  intro i hi
  rw [List.length_drop] at hi
  obtain ⟨b, off, e, hc⟩ := h (l + i) (by omega)
  cases e
  refine ⟨g, l, rfl, ?_⟩
  rw [show l + i = 0 + (l + i) from by omega, hc, List.getD_eq_getElem?_getD, List.getD_eq_getElem?_getD, List.getElem?_drop]
set_option maxRecDepth 100000 in
set_option maxHeartbeats 1600000 in
theorem checkLens_any (q g cap l : Nat) (zs : List Int) (w : World) (h26 : w.cell? ⟨q, 26, none⟩ = some (.slice (some ⟨g, 0, none⟩) zs.length cap)) (h2 : w.cell? ⟨q, 2, none⟩ = some (.int .i64 (l : Int))) (hl : l < zs.length) (hn : zs.length ≤ cap) (hb : zs.length ≤ 1000) (hrow : Row64 w (some ⟨g, 0, none⟩) zs) (h257 : 257 ≤ l) :
    Calls Tryd.prog 145 #[.pointer (some ⟨q, 0, none⟩)] w fun e w' => ((chk (zs.take l) (zs.drop l) → e = .returned .nilIface) ∧ (¬ chk (zs.take l) (zs.drop l) → e = .returned (flt 3))) ∧ Below w.heap.size w w' := by
  have HBO := hideM (both_any q g zs.length cap l w h26 h2 hl hn hb)
  have hqw : q < w.heap.size := World.block_lt_of_cell? w _ h26
  obtain ⟨x, hx⟩ : ∃ x, (zs.take l).getD 256 0 = x := ⟨_, rfl⟩
  obtain ⟨bb, of, eb, hcx⟩ := hrow.takeN l 256 (by rw [List.length_take]; omega)
  cases eb
  rw [hx, show 0 + 256 = 256 from rfl] at hcx
  have hgw : g < w.heap.size := World.block_lt_of_cell? w _ hcx
  have hl1 : (zs.take l).length = l := by rw [List.length_take]; omega
  have hl2 : (zs.drop l).length = zs.length - l := List.length_drop
  have HK1 := hideM (fun (W : World) (hb : Below w.heap.size w W) => ikind_any (some ⟨g, 0, none⟩) cap (zs.take l) W ((hrow.below hb).takeN l) (by omega))
  have HK2 := hideM (fun (W : World) (hb : Below w.heap.size w W) => ikind_any (some ⟨g, l, none⟩) (cap - l) (zs.drop l) W ((hrow.below hb).dropN l) (by omega))
  rw [hl1] at HK1
  rw [hl2] at HK2
  have HCH : Hid (chk (zs.take l) (zs.drop l) ↔ x ≠ 0 ∧ (hk (zs.take l) = 1 ∨ hk (zs.take l) = 4) ∧ (hk (zs.drop l) = 1 ∨ hk (zs.drop l) = 4 ∨ hk (zs.drop l) = 5)) := by
    show _ ↔ _
    unfold chk
    rw [hx]
  generalize chk (zs.take l) (zs.drop l) = C at *
  generalize hk (zs.take l) = a at *
  generalize hk (zs.drop l) = b at *
  generalize zs.length = n at *
  clear hx hl1 hl2 hrow
  have hl256 : (256 : Int) < (l : Int) := by omega
  go_enter Tryd.func145, Tryd.ntmps145
  go_wp2_with fail
  refine Calls.mono HBO.out ?_
  rintro e w1 ⟨rfl, hb1⟩
  have hcx1 := (hb1.cell (p := ⟨g, 256, none⟩) hgw).trans hcx
  have hs1 := hb1.size
  have HB1 := hideM hb1
  have HKA := hideM (HK1.out w1 hb1)
  clear hb1 HBO HK1 hcx h26 h2
  by_cases hx0 : x = 0
  · have hxb : (x == 0) = true := by simp [hx0]
    have HP : Hid (¬ C) := fun h => (HCH.out.1 h).1 hx0
    clear hx0
    go_wp2_with fail
    exact bodyPost_ret (v := flt 3) (by simp [results, Tryd.results145, go_sem, flt]) rfl ⟨⟨(fun h => absurd h HP.out), (fun _ => rfl)⟩, HB1.out⟩
  · have hxb : (x == 0) = false := by simp [hx0]
    have HX0 := hideM hx0
    clear hx0
    go_upto_region 4 with fail
    go_wp2_with fail
    refine Calls.mono HKA.out ?_
    rintro e w2 ⟨rfl, hb2⟩
    have hB2 := HB1.out.trans (hb2.mono hs1)
    have HB2 := hideM hB2
    have hs2 := hB2.size
    have HKB := hideM (HK2.out w2 hB2)
    clear hb2 hB2 HKA HK2 HB1 hcx1
    by_cases ha : a = 1 ∨ a = 4
    · have HA := hideM ha
      rcases ha with rfl | rfl
      · go_upto_region 7 with fail
        go_wp2_with fail
        refine Calls.mono HKB.out ?_
        rintro e w3 ⟨rfl, hb3⟩
        have HB3 := hideM (HB2.out.trans (hb3.mono hs2))
        clear hb3 HKB HB2
        by_cases hbb : b = 1 ∨ b = 4 ∨ b = 5
        · have HP : Hid C := HCH.out.2 ⟨HX0.out, HA.out, hbb⟩
          clear HCH HA
          rcases hbb with rfl | rfl | rfl
          · go_wp2_with fail
            exact bodyPost_ret (v := .nilIface) (by simp [results, Tryd.results145, go_sem]) rfl ⟨⟨(fun _ => rfl), (fun h => absurd HP.out h)⟩, HB3.out⟩
          · go_wp2_with fail
            exact bodyPost_ret (v := .nilIface) (by simp [results, Tryd.results145, go_sem]) rfl ⟨⟨(fun _ => rfl), (fun h => absurd HP.out h)⟩, HB3.out⟩
          · go_wp2_with fail
            exact bodyPost_ret (v := .nilIface) (by simp [results, Tryd.results145, go_sem]) rfl ⟨⟨(fun _ => rfl), (fun h => absurd HP.out h)⟩, HB3.out⟩
        · have HP : Hid (¬ C) := fun h => hbb (HCH.out.1 h).2.2
          have b1 : (b != 1) = true := by simp; omega
          have b2 : (b != 4) = true := by simp; omega
          have b3 : (b == 1) = false := by simp; omega
          have b4 : (b == 4) = false := by simp; omega
          have b5 : (b != 5) = true := by simp; omega
          have b6 : (b == 5) = false := by simp; omega
          clear hbb
          go_wp2_with fail
          exact bodyPost_ret (v := flt 3) (by simp [results, Tryd.results145, go_sem, flt]) rfl ⟨⟨(fun h => absurd h HP.out), (fun _ => rfl)⟩, HB3.out⟩
      · go_upto_region 7 with fail
        go_wp2_with fail
        refine Calls.mono HKB.out ?_
        rintro e w3 ⟨rfl, hb3⟩
        have HB3 := hideM (HB2.out.trans (hb3.mono hs2))
        clear hb3 HKB HB2
        by_cases hbb : b = 1 ∨ b = 4 ∨ b = 5
        · have HP : Hid C := HCH.out.2 ⟨HX0.out, HA.out, hbb⟩
          clear HCH HA
          rcases hbb with rfl | rfl | rfl
          · go_wp2_with fail
            exact bodyPost_ret (v := .nilIface) (by simp [results, Tryd.results145, go_sem]) rfl ⟨⟨(fun _ => rfl), (fun h => absurd HP.out h)⟩, HB3.out⟩
          · go_wp2_with fail
            exact bodyPost_ret (v := .nilIface) (by simp [results, Tryd.results145, go_sem]) rfl ⟨⟨(fun _ => rfl), (fun h => absurd HP.out h)⟩, HB3.out⟩
          · go_wp2_with fail
            exact bodyPost_ret (v := .nilIface) (by simp [results, Tryd.results145, go_sem]) rfl ⟨⟨(fun _ => rfl), (fun h => absurd HP.out h)⟩, HB3.out⟩
        · have HP : Hid (¬ C) := fun h => hbb (HCH.out.1 h).2.2
          have b1 : (b != 1) = true := by simp; omega
          have b2 : (b != 4) = true := by simp; omega
          have b3 : (b == 1) = false := by simp; omega
          have b4 : (b == 4) = false := by simp; omega
          have b5 : (b != 5) = true := by simp; omega
          have b6 : (b == 5) = false := by simp; omega
          clear hbb
          go_wp2_with fail
          exact bodyPost_ret (v := flt 3) (by simp [results, Tryd.results145, go_sem, flt]) rfl ⟨⟨(fun h => absurd h HP.out), (fun _ => rfl)⟩, HB3.out⟩
    · have HP : Hid (¬ C) := fun h => ha (HCH.out.1 h).2.1
      have a1 : (a != 1) = true := by simp; omega
      have a2 : (a != 4) = true := by simp; omega
      have a3 : (a == 1) = false := by simp; omega
      have a4 : (a == 4) = false := by simp; omega
      clear ha
      go_wp2_with fail
      exact bodyPost_ret (v := flt 3) (by simp [results, Tryd.results145, go_sem, flt]) rfl ⟨⟨(fun h => absurd h HP.out), (fun _ => rfl)⟩, HB2.out⟩
end Go.Proofs.YtlffdadmgginmaeDoor
namespace Go.Proofs.YtlffdadmgginmaeDoor
open Go.RowKit
attribute [local go_sem ↓] Go.wp_at_zero Go.wp_at_succ
set_option linter.unusedVariables false

theorem Ents.same {w w' : World} {g o n : Nat} {F : Nat → Nat × Nat} (h : Ents w g o n F) (hb : w'.heap[g]? = w.heap[g]?) (hs : w.heap.size ≤ w'.heap.size) : Ents w' g o n F := by
  refine ⟨Nat.lt_of_lt_of_le h.lt hs, fun i hi => ?_, fun i hi => ?_, fun k => ?_⟩
  · rw [World.cell?_of_block (w := w) (a := ⟨g, o + i * 2, none⟩) hb]; exact h.at0 i hi
  · rw [World.cell?_of_block (w := w) (a := ⟨g, o + i * 2 + 1, none⟩) hb]; exact h.at1 i hi
  · rw [World.frozen?_of_block (w := w) (a := ⟨g, k, none⟩) hb]; exact h.free k
theorem Tab.same {w w' : World} {p m : Nat} {S : Nat → Nat × Nat} {L : Nat → Nat → Nat × Nat} (h : Tab w p S m L) (hb : ∀ k, p ≤ k → k < w.heap.size → w'.heap[k]? = w.heap[k]?) (hs : w.heap.size ≤ w'.heap.size) : Tab w' p S m L := by
  obtain ⟨h1, lo, c, xs, h2, h3, h4⟩ := h
  refine ⟨h1.same (hb p (Nat.le_refl _) h1.lt) hs, lo, c, xs, ?_, ?_, fun j hj => ?_⟩
  · rw [World.cell?_of_block (w := w) (a := ⟨p, 1024, none⟩) (hb p (Nat.le_refl _) h1.lt)]; exact h2
  · obtain ⟨x1, x2⟩ := h3
    refine ⟨x1, ?_⟩
    rcases x2 with x2 | ⟨g, cap, cur, y1, y2, y3, y4⟩
    · exact .inl x2
    · refine .inr ⟨g, cap, cur, y1, y2, ?_, y4⟩
      have hg : g < w.heap.size := by
        rcases Nat.lt_or_ge g w.heap.size with h | h
        · exact h
        · rw [Array.getElem?_eq_none h] at y3; cases y3
      rw [hb g (by omega) hg]
      exact y3
  · obtain ⟨g, e, h5, h6⟩ := h4 j hj
    exact ⟨g, e, h5, h6.same (hb g (by omega) h6.lt) hs⟩
theorem TabOf.same {ls : List Int} {w w' : World} {t m : Nat} {S : Nat → Nat × Nat} {L : Nat → Nat → Nat × Nat} (h : TabOf ls w t S m L) (hb : ∀ k, t ≤ k → k < w.heap.size → w'.heap[k]? = w.heap[k]?) (hs : w.heap.size ≤ w'.heap.size) : TabOf ls w' t S m L := { h with tab := h.tab.same hb hs }
/-- add. -/
def addS (c : LC) (v : Int) (t : Nat) : LC ⊕ (Int × LC) :=
  if (t : Int) > c.f 2 + c.f 3 - (c.lens.length : Nat) then .inr (3, c)
  else if (t : Int) < c.f 2 + c.f 3 - (c.lens.length : Nat) then .inl { c with st := 4, lens := c.lens ++ List.replicate t v }
  else if chk ((c.lens ++ List.replicate t v).take (c.f 2).toNat) ((c.lens ++ List.replicate t v).drop (c.f 2).toNat) then .inl { c with st := 6, lens := c.lens ++ List.replicate t v }
  else .inr (3, { c with lens := c.lens ++ List.replicate t v })
/-- What holds of a machine that reads lengths. -/
structure LInv (c : LC) : Prop where
  st : 4 ≤ c.st
  l1 : 257 ≤ c.f 2
  l2 : c.f 2 ≤ 286
  d1 : 1 ≤ c.f 3
  d2 : c.f 3 ≤ 30
  n : (c.lens.length : Int) < c.f 2 + c.f 3
/-- nextLen. -/
def nextLenS (zs : List Int) (c : LC) (n : Nat) : LC ⊕ (Int × LC) :=
  if (nx3 c.tb (field (bnum zs) c.i n) n).1 = 1 then
    if (nx3 c.tb (field (bnum zs) c.i n) n).2.1 < 16 then addS { c with i := c.i + (nx3 c.tb (field (bnum zs) c.i n) n).2.2 } ((nx3 c.tb (field (bnum zs) c.i n) n).2.1 : Nat) 1
    else if (nx3 c.tb (field (bnum zs) c.i n) n).2.1 = 16 ∧ c.lens.length = 0 then .inr (3, { c with i := c.i + (nx3 c.tb (field (bnum zs) c.i n) n).2.2 })
    else .inl { c with st := 5, i := c.i + (nx3 c.tb (field (bnum zs) c.i n) n).2.2, f := upd c.f 27 ((nx3 c.tb (field (bnum zs) c.i n) n).2.1 : Nat) }
  else if (nx3 c.tb (field (bnum zs) c.i n) n).1 = 2 then .inr (2, c)
  else .inr (3, c)
/-- What add keeps to. -/
def AddOK (q p hB : Nat) (zs : List Int) (rdy : Value) : Prop := ∀ (c : LC) (v : Int) (t : Nat) (w : World), LMem q p hB zs rdy w c → LInv c → 1 ≤ t → t ≤ 138 →
  Calls Tryd.prog 140 #[.pointer (some ⟨q, 0, none⟩), .int .i64 v, .int .i64 (t : Nat)] w fun e w' => LPost q p hB zs rdy (addS c v t) e w w'
theorem LMem.slice {q p hB : Nat} {zs : List Int} {rdy : Value} {w : World} {c : LC} (h : LMem q p hB zs rdy w c) : ∃ lo cap, w.cell? ⟨q, 26, none⟩ = some (.slice lo c.lens.length cap) := by
  obtain ⟨B, v, b1, b2, b3, b4, b5, b6, b7, b8⟩ := h.own
  obtain ⟨_, x⟩ := b6
  rcases x with ⟨e, x⟩ | ⟨g, cap, cur, e, _⟩
  · exact ⟨none, 0, by rw [b5, e, x]⟩
  · exact ⟨_, cap, by rw [b5, e]⟩
theorem LMem.tab {q p hB : Nat} {zs : List Int} {rdy : Value} {w : World} {c : LC} (h : LMem q p hB zs rdy w c) (hs : 4 ≤ c.st) : ∃ t S m L, w.cell? ⟨q, 25, none⟩ = some (.pointer (some ⟨t, 0, none⟩)) ∧ TabOf c.tb w t S m L := by
  obtain ⟨B, v, b1, b2, b3, b4, b5, b6, b7, b8⟩ := h.own
  obtain ⟨t, S, m, L, w0, h1, h2, h3, h4, h5, h6⟩ := b8 hs
  exact ⟨t, S, m, L, h1, h2.same h6 (by omega)⟩
end Go.Proofs.YtlffdadmgginmaeDoor
namespace Go.Proofs.YtlffdadmgginmaeDoor
open Go.RowKit
attribute [local go_sem ↓] Go.wp_at_zero Go.wp_at_succ
set_option linter.unusedVariables false

theorem nx3_kinds (ls : List Int) (b n : Nat) : (nx3 ls b n).1 = 0 ∨ (nx3 ls b n).1 = 1 ∨ (nx3 ls b n).1 = 2 := by
  exact (nx3_is ls b n).kinds
theorem Trod.set27 {q p : Nat} {w : World} (v : Value) : Trod q p w (w.setCell ⟨q, 27, none⟩ v) := by
  have hc : ∀ o, o ≠ 27 → (w.setCell ⟨q, 27, none⟩ v).cell? ⟨q, o, none⟩ = w.cell? ⟨q, o, none⟩ := fun o ho => World.cell?_setCell_other _ _ _ _ (by first | (simp; done) | (simp; omega))
  have hg := grownBy_setCell w ⟨q, 27, none⟩ v
  refine ⟨hg.os, hg.tape, hg.output, hg.size, ?_, (fun o ho => hc o (by omega)), (fun v k h1 h2 => .inr ⟨v, (hc 26 (by omega)) ▸ h1, h2⟩)⟩
  intro j hj h1 _ _
  exact hg.block j hj (by simpa using h1)
set_option maxRecDepth 100000 in
set_option maxHeartbeats 1600000 in
theorem nextLen_any (q p hB : Nat) (zs : List Int) (rdy : Value) (c : LC) (n : Nat) (w : World) (hM : LMem q p hB zs rdy w c) (hI : LInv c) (hA : AddOK q p hB zs rdy) (hz : Octets zs) (hzl : zs.length ≤ 65536) (hn : Nat.min (8 * zs.length - c.i) 15 = n) (r : LC ⊕ (Int × LC)) (hr : nextLenS zs c n = r) :
    Calls Tryd.prog 126 #[.pointer (some ⟨q, 0, none⟩)] w fun e w' => LPost q p hB zs rdy r e w w' := by
  have hqw := hM.lt
  obtain ⟨t, S, m, L, h25, hT⟩ := hM.tab hI.st
  have hMd := hM.below ((Below.refl _ _).drew)
  have HSY := hideM (symbol_any q p hB t m S L c.tb zs c.i n w.drew hMd.c0 hM.ne hMd.rd (hT.below ((Below.refl _ _).drew)) hz hzl hn)
  unfold nextLenS at hr
  have hkd := nx3_kinds c.tb (field (bnum zs) c.i n) n
  rcases hx : nx3 c.tb (field (bnum zs) c.i n) n with ⟨k, s, l⟩
  rw [hx] at HSY hr hkd
  have HKD : Hid (k = 0 ∨ k = 1 ∨ k = 2) := hkd
  clear hkd
  simp only at hr
  have HR := hideM hr
  have HM := hideM hM
  have HI := hideM hI
  have HAD := hideM hA
  clear hr hM hI hA hMd hx hT
  by_cases hk1 : k = 1
  · subst hk1
    have HR1 : Hid ((if s < 16 then addS { c with i := c.i + l } (s : Nat) 1 else if s = 16 ∧ c.lens.length = 0 then .inr (3, { c with i := c.i + l }) else .inl { c with st := 5, i := c.i + l, f := upd c.f 27 (s : Nat) }) = r) := by
      have h := HR.out
      rw [if_pos rfl] at h
      exact h
    have HS1 : Hid (Calls Tryd.prog 139 #[.pointer (some ⟨q, 0, none⟩), .pointer (some ⟨t, 0, none⟩)] w.drew fun e w' => e = .returned (.tuple #[.int .i64 (s : Nat), .nilIface]) ∧ Rd w' p hB zs (c.i + l) ∧ w.drew.grownBy w' (some p)) := Calls.mono HSY.out (fun e w' h => h.1 rfl)
    clear HR HSY
    go_enter Tryd.func126, Tryd.ntmps126
    go_upto_region 1 with fail
    go_region_held3 (fun w' => w'.cell? ⟨q, 25, none⟩ = some (.pointer (some ⟨t, 0, none⟩)))
      (first | (with_reducible assumption) | (go_keep; done))
      ((go_at_call 139; refine Calls.mono HS1.out ?_; rintro e w2 ⟨rfl, hR2, hg2⟩; have k25 := hg2.cell (show w.drew.cell? ⟨q, 25, none⟩ = some (.pointer (some ⟨t, 0, none⟩)) from h25) (by have := HM.out.ne; simpa using this)))
    have hd : Below w.heap.size w w.drew := (Below.refl _ _).drew
    have hMd := HM.out.below hd
    have hM2 := hMd.went hR2 hg2
    have hT2 := (Trod.below (p := p) hqw hd).trans (Trod.num HM.out.ne hMd.lt hg2)
    have hI2 : LInv { c with i := c.i + l } := ⟨HI.out.st, HI.out.l1, HI.out.l2, HI.out.d1, HI.out.d2, HI.out.n⟩
    have HM2 := hideM hM2
    have HT2 := hideM hT2
    have hq2 := hM2.lt
    obtain ⟨lo, cap, c26⟩ := hM2.slice
    have c27 := hM2.num 27 (by unfold isNum; omega)
    have f27 := hM2.free 27
    have HA1 : Hid (Calls Tryd.prog 140 #[.pointer (some ⟨q, 0, none⟩), .int .i64 (s : Nat), .int .i64 1] w2 fun e w' => LPost q p hB zs rdy (addS { c with i := c.i + l } (s : Nat) 1) e w2 w') := HAD.out { c with i := c.i + l } (s : Nat) 1 w2 hM2 hI2 (by decide) (by decide)
    clear hM2 hT2 hI2 hMd hd hR2 hg2 k25 h25 HS1 HAD HM
    by_cases hs : s < 16
    · have hsb : decide ((s : Int) < 16) = true := decide_eq_true (by omega)
      have HX : Hid (r = addS { c with i := c.i + l } (s : Nat) 1) := by
        show _ = _
        rw [← HR1.out, if_pos hs]
      clear HR1
      generalize addS { c with i := c.i + l } (s : Nat) 1 = r1 at *
      go_upto_region 5 with fail
      go_wp2_with fail
      refine Calls.mono HA1.out ?_
      rintro e w3 hP
      rcases r1 with c' | ⟨kk, cf⟩
      · obtain ⟨rfl, hM3, hT3⟩ := hP.1 c' rfl
        have HF : Hid (LPost q p hB zs rdy r (.returned (.tuple #[lnow q rdy c'.st, .nilIface])) w w3) := by
          show LPost _ _ _ _ _ _ _ _ _
          rw [HX.out]
          exact LPost.ok rfl hM3 (HT2.out.trans hT3)
        clear hP hM3 hT3 HX HA1
        generalize lnow q rdy c'.st = V at *
        go_wp2_with fail
        exact bodyPost_ret (v := .tuple #[V, .nilIface]) (by simp [results, Tryd.results126, go_sem]) rfl HF.out
      · obtain ⟨V, rfl, hM3, hT3⟩ := hP.2 kk cf rfl
        have HF : Hid (LPost q p hB zs rdy r (.returned (.tuple #[V, flt kk])) w w3) := by
          show LPost _ _ _ _ _ _ _ _ _
          rw [HX.out]
          exact LPost.no hM3 (HT2.out.trans hT3)
        clear hP hM3 hT3 HX HA1
        generalize flt kk = V2 at *
        go_wp2_with fail
        exact bodyPost_ret (v := .tuple #[V, V2]) (by simp [results, Tryd.results126, go_sem]) rfl HF.out
    · have hsb : decide ((s : Int) < 16) = false := decide_eq_false (by omega)
      clear HA1
      by_cases h16 : s = 16 ∧ c.lens.length = 0
      · obtain ⟨rfl, h0⟩ := h16
        have HF : Hid (LPost q p hB zs rdy r (.returned (.tuple #[.nilFunc, flt 3])) w w2) := by
          show LPost _ _ _ _ _ _ _ _ _
          rw [← HR1.out, if_neg hs, if_pos ⟨rfl, h0⟩]
          exact LPost.no HM2.out HT2.out
        rw [show ({ c with i := c.i + l } : LC).lens.length = 0 from h0] at c26
        clear HR1 hs
        go_wp2_with fail
        exact bodyPost_ret (v := .tuple #[.nilFunc, flt 3]) (by simp [results, Tryd.results126, go_sem, flt]) rfl HF.out
      · have hM3 := (HM2.out.set 27 (by unfold isNum; omega) (s : Int)).at 5 (fun _ h => by omega) (fun _ => HI.out.st)
        have hT3 := HT2.out.trans (Trod.set27 (q := q) (p := p) (w := w2) (.int .i64 (s : Int)))
        have HF : Hid (LPost q p hB zs rdy r (.returned (.tuple #[.func (Fn.func 141) #[.pointer (some ⟨q, 0, none⟩)] #[], .nilIface])) w (w2.setCell ⟨q, 27, none⟩ (.int .i64 (s : Int)))) := by
          show LPost _ _ _ _ _ _ _ _ _
          rw [← HR1.out, if_neg hs, if_neg h16]
          exact LPost.ok rfl hM3 hT3
        clear HR1 hM3 hT3
        have c26' : w2.cell? ⟨q, 26, none⟩ = some (.slice lo c.lens.length cap) := c26
        generalize c.lens.length = N at *
        by_cases e16 : s = 16
        · subst e16
          have hN : ¬ N = 0 := fun h => h16 ⟨rfl, h⟩
          have hNb : ((N : Int) == 0) = false := by simp; omega
          clear h16 hs
          go_wp2_with fail
          exact bodyPost_ret (v := .tuple #[.func (Fn.func 141) #[.pointer (some ⟨q, 0, none⟩)] #[], .nilIface]) (by simp [results, Tryd.results126, go_sem]) rfl HF.out
        · have e16b : ((s : Int) == 16) = false := by simp; omega
          clear h16 hs
          go_wp2_with fail
          exact bodyPost_ret (v := .tuple #[.func (Fn.func 141) #[.pointer (some ⟨q, 0, none⟩)] #[], .nilIface]) (by simp [results, Tryd.results126, go_sem]) rfl HF.out
  · have hcl : ∃ d : Int, Hid (r = .inr (d, c)) ∧ Hid (Calls Tryd.prog 139 #[.pointer (some ⟨q, 0, none⟩), .pointer (some ⟨t, 0, none⟩)] w.drew fun e w' => e = .returned (.tuple #[.int .i64 0, flt d]) ∧ Below w.drew.heap.size w.drew w') := by
      rcases HKD.out with rfl | rfl | rfl
      · exact ⟨3, (HR.out.symm : r = _), Calls.mono HSY.out (fun e w' h => h.2.2 rfl)⟩
      · exact absurd rfl hk1
      · exact ⟨2, (HR.out.symm : r = _), Calls.mono HSY.out (fun e w' h => h.2.1 rfl)⟩
    obtain ⟨d, HX, HS1⟩ := hcl
    clear HR HSY HKD HAD hk1
    unfold flt at HS1
    go_enter Tryd.func126, Tryd.ntmps126
    go_upto_region 1 with fail
    go_region_held3 (fun w' => w'.cell? ⟨q, 25, none⟩ = some (.pointer (some ⟨t, 0, none⟩)))
      (first | (with_reducible assumption) | (go_keep; done))
      ((go_at_call 139; refine Calls.mono HS1.out ?_; rintro e w2 ⟨rfl, hb2⟩; have k25 := (hb2.cell (p := ⟨q, 25, none⟩) hqw).trans (show w.drew.cell? ⟨q, 25, none⟩ = some (.pointer (some ⟨t, 0, none⟩)) from h25)))
    have hB2 : Below w.heap.size w w2 := ((Below.refl _ _).drew).trans hb2
    have HF : Hid (LPost q p hB zs rdy r (.returned (.tuple #[.nilFunc, flt d])) w w2) := by
      show LPost _ _ _ _ _ _ _ _ _
      rw [HX.out]
      exact LPost.no (HM.out.below hB2) (Trod.below hqw hB2)
    clear hb2 hB2 HX HS1 k25
    go_wp2_with fail
    exact bodyPost_ret (v := .tuple #[.nilFunc, flt d]) (by simp [results, Tryd.results126, go_sem, flt]) rfl HF.out
end Go.Proofs.YtlffdadmgginmaeDoor
namespace Go.Proofs.YtlffdadmgginmaeDoor
open Go.RowKit
attribute [local go_sem ↓] Go.wp_at_zero Go.wp_at_succ
set_option linter.unusedVariables false

theorem LMem.last {q p hB : Nat} {zs : List Int} {rdy : Value} {w : World} {c : LC} (h : LMem q p hB zs rdy w c) (h0 : 0 < c.lens.length) : ∃ g cap, w.cell? ⟨q, 26, none⟩ = some (.slice (some ⟨g, 0, none⟩) c.lens.length cap) ∧ c.lens.length ≤ cap ∧ Row64 w (some ⟨g, 0, none⟩) c.lens := by
  obtain ⟨B, v, b1, b2, b3, b4, b5, b6, b7, b8⟩ := h.own
  have b6' := b6
  obtain ⟨_, x⟩ := b6'
  rcases x with ⟨e, x⟩ | ⟨g, cap, cur, e, _, _, hc, _⟩
  · omega
  · subst e
    exact ⟨g, cap, b5, hc, Row64.owned b6⟩
/-- The value, the least times and the further bits of a repeat. -/
def repV (c : LC) : Int := if c.f 27 = 16 then c.lens.getD (c.lens.length - 1) 0 else 0
def repT (c : LC) : Nat := if c.f 27 = 18 then 11 else 3
def repX (c : LC) : Nat := if c.f 27 = 16 then 2 else if c.f 27 = 18 then 7 else 3
/-- repeat. -/
def repeatS (zs : List Int) (c : LC) : LC ⊕ (Int × LC) := if c.i + repX c ≤ 8 * zs.length then addS { c with i := c.i + repX c } (repV c) (repT c + field (bnum zs) c.i (repX c)) else .inr (2, c)
set_option maxRecDepth 100000 in
set_option maxHeartbeats 1600000 in
theorem repeat_17 (q p hB : Nat) (zs : List Int) (rdy : Value) (c : LC) (w : World) (hM : LMem q p hB zs rdy w c) (hI : LInv c) (hA : AddOK q p hB zs rdy) (hz : Octets zs) (hzl : zs.length ≤ 65536) (hrep : c.f 27 = 17) (r : LC ⊕ (Int × LC)) (hr : repeatS zs c = r) :
    Calls Tryd.prog 141 #[.pointer (some ⟨q, 0, none⟩)] w fun e w' => LPost q p hB zs rdy r e w w' := by
  have hqw := hM.lt
  have hX : repX c = 3 := by unfold repX; rw [hrep]; rfl
  have hT : repT c = 3 := by unfold repT; rw [hrep]; rfl
  have hV : repV c = 0 := by unfold repV; rw [hrep]; rfl
  unfold repeatS at hr
  rw [hX, hT, hV] at hr
  have c27 := hM.num 27 (by unfold isNum; omega)
  rw [hrep] at c27
  have HM := hideM hM
  have HI := hideM hI
  have HAD := hideM hA
  have hd : Below w.heap.size w w.drew := (Below.refl _ _).drew
  by_cases hn : c.i + 3 ≤ 8 * zs.length
  · rw [if_pos hn] at hr
    have HR := hideM hr
    have hF := field_small (bnum zs) c.i 3 (by decide)
    have HN := hideM (fun W (hb : Below w.heap.size w W) => number_yes q p hB zs c.i 3 W (hM.below hb).c0 (hM.below hb).rd hz hzl (by decide) hn)
    generalize field (bnum zs) c.i 3 = F at *
    clear hr hM hI hA hn hX hT hV hrep hd
    go_enter Tryd.func141, Tryd.ntmps141
    go_wp2_with fail
    have hd : Below w.heap.size w w := Below.refl _ _
    refine Calls.mono (HN.out _ hd) ?_
    rintro e w2 ⟨rfl, hR2, hg2⟩
    have hMd := HM.out.below hd
    have hM2 := hMd.went hR2 hg2
    have hT2 := (Trod.below (p := p) hqw hd).trans (Trod.num HM.out.ne hMd.lt hg2)
    have hI2 : LInv { c with i := c.i + 3 } := ⟨HI.out.st, HI.out.l1, HI.out.l2, HI.out.d1, HI.out.d2, HI.out.n⟩
    have HT2 := hideM hT2
    have hq2 := hM2.lt
    have HA1 := hideM (HAD.out { c with i := c.i + 3 } (0) (3 + F) w2 hM2 hI2 (by omega) (by omega))
    rw [show (((3 + F : Nat)) : Int) = 3 + (F : Int) from by omega] at HA1
    generalize addS { c with i := c.i + 3 } (0) (3 + F) = r1 at *
    clear hM2 hT2 hI2 hMd hd hR2 hg2 HN HAD HM HI
    go_wp2_with fail
    refine Calls.mono HA1.out ?_
    rintro e w3 hP
    rcases r1 with c' | ⟨kk, cf⟩
    · obtain ⟨rfl, hM3, hT3⟩ := hP.1 c' rfl
      have HF : Hid (LPost q p hB zs rdy r (.returned (.tuple #[lnow q rdy c'.st, .nilIface])) w w3) := by
        show LPost _ _ _ _ _ _ _ _ _
        rw [← HR.out]
        exact LPost.ok rfl hM3 (HT2.out.trans hT3)
      clear hP hM3 hT3 HR HA1
      generalize lnow q rdy c'.st = V at *
      go_wp2_with fail
      exact bodyPost_ret (v := .tuple #[V, .nilIface]) (by simp [results, Tryd.results141, go_sem]) rfl HF.out
    · obtain ⟨V, rfl, hM3, hT3⟩ := hP.2 kk cf rfl
      have HF : Hid (LPost q p hB zs rdy r (.returned (.tuple #[V, flt kk])) w w3) := by
        show LPost _ _ _ _ _ _ _ _ _
        rw [← HR.out]
        exact LPost.no hM3 (HT2.out.trans hT3)
      clear hP hM3 hT3 HR HA1
      generalize flt kk = V2 at *
      go_wp2_with fail
      exact bodyPost_ret (v := .tuple #[V, V2]) (by simp [results, Tryd.results141, go_sem]) rfl HF.out
  · rw [if_neg hn] at hr
    have HR := hideM hr
    have HN := hideM (fun W (hb : Below w.heap.size w W) => number_no q p hB zs c.i 3 W (hM.below hb).c0 (hM.below hb).rd hzl (by decide) hn)
    unfold flt at HN
    clear hr hM hI hA hn hX hT hV hrep hd
    go_enter Tryd.func141, Tryd.ntmps141
    go_wp2_with fail
    have hd : Below w.heap.size w w := Below.refl _ _
    refine Calls.mono (HN.out _ hd) ?_
    rintro e w2 ⟨rfl, hb2⟩
    have hB2 := hd.trans (hb2.mono hd.size)
    have HF : Hid (LPost q p hB zs rdy r (.returned (.tuple #[.nilFunc, flt 2])) w w2) := by
      show LPost _ _ _ _ _ _ _ _ _
      rw [← HR.out]
      exact LPost.no (HM.out.below hB2) (Trod.below hqw hB2)
    clear hb2 hB2 HR HN hd
    go_wp2_with fail
    exact bodyPost_ret (v := .tuple #[.nilFunc, flt 2]) (by simp [results, Tryd.results141, go_sem, flt]) rfl HF.out
set_option maxRecDepth 100000 in
set_option maxHeartbeats 1600000 in
theorem repeat_18 (q p hB : Nat) (zs : List Int) (rdy : Value) (c : LC) (w : World) (hM : LMem q p hB zs rdy w c) (hI : LInv c) (hA : AddOK q p hB zs rdy) (hz : Octets zs) (hzl : zs.length ≤ 65536) (hrep : c.f 27 = 18) (r : LC ⊕ (Int × LC)) (hr : repeatS zs c = r) :
    Calls Tryd.prog 141 #[.pointer (some ⟨q, 0, none⟩)] w fun e w' => LPost q p hB zs rdy r e w w' := by
  have hqw := hM.lt
  have hX : repX c = 7 := by unfold repX; rw [hrep]; rfl
  have hT : repT c = 11 := by unfold repT; rw [hrep]; rfl
  have hV : repV c = 0 := by unfold repV; rw [hrep]; rfl
  unfold repeatS at hr
  rw [hX, hT, hV] at hr
  have c27 := hM.num 27 (by unfold isNum; omega)
  rw [hrep] at c27
  have HM := hideM hM
  have HI := hideM hI
  have HAD := hideM hA
  have hd : Below w.heap.size w w.drew := (Below.refl _ _).drew
  by_cases hn : c.i + 7 ≤ 8 * zs.length
  · rw [if_pos hn] at hr
    have HR := hideM hr
    have hF := field_small (bnum zs) c.i 7 (by decide)
    have HN := hideM (fun W (hb : Below w.heap.size w W) => number_yes q p hB zs c.i 7 W (hM.below hb).c0 (hM.below hb).rd hz hzl (by decide) hn)
    generalize field (bnum zs) c.i 7 = F at *
    clear hr hM hI hA hn hX hT hV hrep hd
    go_enter Tryd.func141, Tryd.ntmps141
    go_wp2_with fail
    have hd : Below w.heap.size w w := Below.refl _ _
    refine Calls.mono (HN.out _ hd) ?_
    rintro e w2 ⟨rfl, hR2, hg2⟩
    have hMd := HM.out.below hd
    have hM2 := hMd.went hR2 hg2
    have hT2 := (Trod.below (p := p) hqw hd).trans (Trod.num HM.out.ne hMd.lt hg2)
    have hI2 : LInv { c with i := c.i + 7 } := ⟨HI.out.st, HI.out.l1, HI.out.l2, HI.out.d1, HI.out.d2, HI.out.n⟩
    have HT2 := hideM hT2
    have hq2 := hM2.lt
    have HA1 := hideM (HAD.out { c with i := c.i + 7 } (0) (11 + F) w2 hM2 hI2 (by omega) (by omega))
    rw [show (((11 + F : Nat)) : Int) = 11 + (F : Int) from by omega] at HA1
    generalize addS { c with i := c.i + 7 } (0) (11 + F) = r1 at *
    clear hM2 hT2 hI2 hMd hd hR2 hg2 HN HAD HM HI
    go_wp2_with fail
    refine Calls.mono HA1.out ?_
    rintro e w3 hP
    rcases r1 with c' | ⟨kk, cf⟩
    · obtain ⟨rfl, hM3, hT3⟩ := hP.1 c' rfl
      have HF : Hid (LPost q p hB zs rdy r (.returned (.tuple #[lnow q rdy c'.st, .nilIface])) w w3) := by
        show LPost _ _ _ _ _ _ _ _ _
        rw [← HR.out]
        exact LPost.ok rfl hM3 (HT2.out.trans hT3)
      clear hP hM3 hT3 HR HA1
      generalize lnow q rdy c'.st = V at *
      go_wp2_with fail
      exact bodyPost_ret (v := .tuple #[V, .nilIface]) (by simp [results, Tryd.results141, go_sem]) rfl HF.out
    · obtain ⟨V, rfl, hM3, hT3⟩ := hP.2 kk cf rfl
      have HF : Hid (LPost q p hB zs rdy r (.returned (.tuple #[V, flt kk])) w w3) := by
        show LPost _ _ _ _ _ _ _ _ _
        rw [← HR.out]
        exact LPost.no hM3 (HT2.out.trans hT3)
      clear hP hM3 hT3 HR HA1
      generalize flt kk = V2 at *
      go_wp2_with fail
      exact bodyPost_ret (v := .tuple #[V, V2]) (by simp [results, Tryd.results141, go_sem]) rfl HF.out
  · rw [if_neg hn] at hr
    have HR := hideM hr
    have HN := hideM (fun W (hb : Below w.heap.size w W) => number_no q p hB zs c.i 7 W (hM.below hb).c0 (hM.below hb).rd hzl (by decide) hn)
    unfold flt at HN
    clear hr hM hI hA hn hX hT hV hrep hd
    go_enter Tryd.func141, Tryd.ntmps141
    go_wp2_with fail
    have hd : Below w.heap.size w w := Below.refl _ _
    refine Calls.mono (HN.out _ hd) ?_
    rintro e w2 ⟨rfl, hb2⟩
    have hB2 := hd.trans (hb2.mono hd.size)
    have HF : Hid (LPost q p hB zs rdy r (.returned (.tuple #[.nilFunc, flt 2])) w w2) := by
      show LPost _ _ _ _ _ _ _ _ _
      rw [← HR.out]
      exact LPost.no (HM.out.below hB2) (Trod.below hqw hB2)
    clear hb2 hB2 HR HN hd
    go_wp2_with fail
    exact bodyPost_ret (v := .tuple #[.nilFunc, flt 2]) (by simp [results, Tryd.results141, go_sem, flt]) rfl HF.out
set_option maxRecDepth 100000 in
set_option maxHeartbeats 1600000 in
theorem repeat_16 (q p hB : Nat) (zs : List Int) (rdy : Value) (c : LC) (w : World) (hM : LMem q p hB zs rdy w c) (hI : LInv c) (hA : AddOK q p hB zs rdy) (hz : Octets zs) (hzl : zs.length ≤ 65536) (hrep : c.f 27 = 16) (h0 : 0 < c.lens.length) (r : LC ⊕ (Int × LC)) (hr : repeatS zs c = r) :
    Calls Tryd.prog 141 #[.pointer (some ⟨q, 0, none⟩)] w fun e w' => LPost q p hB zs rdy r e w w' := by
  have hqw := hM.lt
  have hX : repX c = 2 := by unfold repX; rw [hrep]; rfl
  have hT : repT c = 3 := by unfold repT; rw [hrep]; rfl
  have hV : repV c = c.lens.getD (c.lens.length - 1) 0 := by unfold repV; rw [hrep]; rfl
  unfold repeatS at hr
  rw [hX, hT, hV] at hr
  have c27 := hM.num 27 (by unfold isNum; omega)
  rw [hrep] at c27
  obtain ⟨g, cap, c26, hcap, hrow⟩ := hM.last h0
  obtain ⟨bb, of, eb, hcx⟩ := hrow (c.lens.length - 1) (by omega)
  cases eb
  have hgw : g < w.heap.size := World.block_lt_of_cell? w _ hcx
  have hNm : c.lens.length ≤ 1000 := by have := hI.n; have := hI.l2; have := hI.d2; omega
  obtain ⟨N, hN⟩ : ∃ N, c.lens.length = N + 1 := ⟨c.lens.length - 1, by omega⟩
  rw [hN, show 0 + (N + 1 - 1) = N from by omega] at hcx
  rw [hN] at c26 hcap hNm
  have HH := hideM hrow
  obtain ⟨x, hx⟩ : ∃ x, c.lens.getD (N + 1 - 1) 0 = x := ⟨_, rfl⟩
  have hx' : c.lens.getD (c.lens.length - 1) 0 = x := by rw [hN]; exact hx
  rw [hx] at hcx
  rw [hx'] at hr
  clear hrow hx hx' h0 hN
  have HM := hideM hM
  have HI := hideM hI
  have HAD := hideM hA
  have hd : Below w.heap.size w w.drew := (Below.refl _ _).drew
  by_cases hn : c.i + 2 ≤ 8 * zs.length
  · rw [if_pos hn] at hr
    have HR := hideM hr
    have hF := field_small (bnum zs) c.i 2 (by decide)
    have HN := hideM (fun W (hb : Below w.heap.size w W) => number_yes q p hB zs c.i 2 W (hM.below hb).c0 (hM.below hb).rd hz hzl (by decide) hn)
    generalize field (bnum zs) c.i 2 = F at *
    clear hr hM hI hA hn hX hT hV hrep hd
    go_enter Tryd.func141, Tryd.ntmps141
    go_upto_region 4 with fail
    go_region
    go_wp2_with fail
    have hd : Below w.heap.size w w.drew := (Below.refl _ _).drew
    refine Calls.mono (HN.out _ hd) ?_
    rintro e w2 ⟨rfl, hR2, hg2⟩
    have hMd := HM.out.below hd
    have hM2 := hMd.went hR2 hg2
    have hT2 := (Trod.below (p := p) hqw hd).trans (Trod.num HM.out.ne hMd.lt hg2)
    have hI2 : LInv { c with i := c.i + 2 } := ⟨HI.out.st, HI.out.l1, HI.out.l2, HI.out.d1, HI.out.d2, HI.out.n⟩
    have HT2 := hideM hT2
    have hq2 := hM2.lt
    have HA1 := hideM (HAD.out { c with i := c.i + 2 } x (3 + F) w2 hM2 hI2 (by omega) (by omega))
    rw [show (((3 + F : Nat)) : Int) = 3 + (F : Int) from by omega] at HA1
    generalize addS { c with i := c.i + 2 } x (3 + F) = r1 at *
    clear hM2 hT2 hI2 hMd hd hR2 hg2 HN HAD HM HI
    go_wp2_with fail
    refine Calls.mono HA1.out ?_
    rintro e w3 hP
    rcases r1 with c' | ⟨kk, cf⟩
    · obtain ⟨rfl, hM3, hT3⟩ := hP.1 c' rfl
      have HF : Hid (LPost q p hB zs rdy r (.returned (.tuple #[lnow q rdy c'.st, .nilIface])) w w3) := by
        show LPost _ _ _ _ _ _ _ _ _
        rw [← HR.out]
        exact LPost.ok rfl hM3 (HT2.out.trans hT3)
      clear hP hM3 hT3 HR HA1
      generalize lnow q rdy c'.st = V at *
      go_wp2_with fail
      exact bodyPost_ret (v := .tuple #[V, .nilIface]) (by simp [results, Tryd.results141, go_sem]) rfl HF.out
    · obtain ⟨V, rfl, hM3, hT3⟩ := hP.2 kk cf rfl
      have HF : Hid (LPost q p hB zs rdy r (.returned (.tuple #[V, flt kk])) w w3) := by
        show LPost _ _ _ _ _ _ _ _ _
        rw [← HR.out]
        exact LPost.no hM3 (HT2.out.trans hT3)
      clear hP hM3 hT3 HR HA1
      generalize flt kk = V2 at *
      go_wp2_with fail
      exact bodyPost_ret (v := .tuple #[V, V2]) (by simp [results, Tryd.results141, go_sem]) rfl HF.out
  · rw [if_neg hn] at hr
    have HR := hideM hr
    have HN := hideM (fun W (hb : Below w.heap.size w W) => number_no q p hB zs c.i 2 W (hM.below hb).c0 (hM.below hb).rd hzl (by decide) hn)
    unfold flt at HN
    clear hr hM hI hA hn hX hT hV hrep hd
    go_enter Tryd.func141, Tryd.ntmps141
    go_upto_region 4 with fail
    go_region
    go_wp2_with fail
    have hd : Below w.heap.size w w.drew := (Below.refl _ _).drew
    refine Calls.mono (HN.out _ hd) ?_
    rintro e w2 ⟨rfl, hb2⟩
    have hB2 := hd.trans (hb2.mono hd.size)
    have HF : Hid (LPost q p hB zs rdy r (.returned (.tuple #[.nilFunc, flt 2])) w w2) := by
      show LPost _ _ _ _ _ _ _ _ _
      rw [← HR.out]
      exact LPost.no (HM.out.below hB2) (Trod.below hqw hB2)
    clear hb2 hB2 HR HN hd
    go_wp2_with fail
    exact bodyPost_ret (v := .tuple #[.nilFunc, flt 2]) (by simp [results, Tryd.results141, go_sem, flt]) rfl HF.out
end Go.Proofs.YtlffdadmgginmaeDoor
namespace Go.Proofs.YtlffdadmgginmaeDoor
open Go.RowKit
attribute [local go_sem ↓] Go.wp_at_zero Go.wp_at_succ
set_option linter.unusedVariables false

/-- The block g holds just these numbers. -/
def Blk (w : World) (g : Nat) (zs : List Int) : Prop := w.heap[g]? = some (.cells (zs.map (Value.int .i64)).toArray 2 (0, 0))
theorem Blk.of {w : World} {B g n : Nat} {zs : List Int} (h : w.ownsRow B 2 1 (.slice (some ⟨g, 0, none⟩) n n) n (zs.map (Value.int .i64))) : Blk w g zs ∧ B ≤ g := by
  rcases h.2 with ⟨h', _⟩ | ⟨g', cap', cur, h', hb, hg, _, _, hs, ht⟩
  · simp at h'
  · simp only [Value.slice.injEq, Option.some.injEq, Addr.mk.injEq, and_true, true_and] at h'
    obtain ⟨rfl, rfl⟩ := h'
    refine ⟨?_, hb⟩
    unfold Blk
    rw [hg, ← ht, List.take_of_length_le (by rw [Array.length_toList]; omega)]
theorem Blk.owns {w : World} {B g : Nat} {zs : List Int} (h : Blk w g zs) (hB : B ≤ g) (hm : zs.length ≤ maxLen) : w.ownsRow B 2 1 (.slice (some ⟨g, 0, none⟩) zs.length zs.length) zs.length (zs.map (Value.int .i64)) := by
  refine ⟨by simp, .inr ⟨g, zs.length, _, rfl, hB, h, Nat.le_refl _, hm, by simp, ?_⟩⟩
  rw [List.take_of_length_le (by simp)]
theorem Blk.row {w : World} {g : Nat} {zs : List Int} (h : Blk w g zs) : Row64 w (some ⟨g, 0, none⟩) zs := by
  by_cases hz : zs.length ≤ maxLen
  · exact Row64.owned (h.owns (B := 0) (Nat.zero_le _) hz)
  · refine Row64.of fun i hi => ?_
    unfold Blk at h
    simp [World.cell?, h, hi, List.getD]
theorem Tryd.size_i64 : (Tryd.prog.info? 2).map (·.size) = some 1 := by kernel_rfl
/-- copy into a block, from numbers that lie anywhere. -/
theorem copy_blk (w : World) (g : Nat) (zs ys : List Int) (m dLen dCap sLen sCap : Nat) (a : Addr) (hB : Blk w g zs) (hs : Row64 w (some a) ys) (hn : ys.length = Nat.min sLen dLen) (hfit : m + ys.length ≤ zs.length) :
    ∃ w2, Sem.run Tryd.prog (Builtin.copy_ #[23, 23] 3 #[.slice (some ⟨g, m, none⟩) dLen dCap, .slice (some a) sLen sCap]) w = .ok (goInt ys.length) w2 ∧ Blk w2 g (zs.take m ++ ys ++ zs.drop (m + ys.length)) ∧ ∀ B w0, Below B w0 w → B ≤ g → Below B w0 w2 := by
  have hrun := run_copy_row (P := Tryd.prog) w 23 23 3 2 g m dLen dCap a sLen sCap (zs.map (Value.int .i64)).toArray 2 (ys.map (Value.int .i64)) Tryd.underlying23 Tryd.size_i64 hB (by rw [List.length_map]; exact hn) (by
    intro j u hu
    have hj : j < ys.length := by
      rcases Nat.lt_or_ge j ys.length with h | h
      · exact h
      · rw [List.getElem?_eq_none (by simpa using h)] at hu; cases hu
    obtain ⟨b, o, e, hc⟩ := hs j hj
    simp only [Option.some.injEq] at e
    subst e
    rw [Addr.add_lit, hc]
    simp [hj] at hu
    simp [List.getD, hj, hu]) (by simpa using hfit) (by intro u hu; simp at hu; obtain ⟨x, _, rfl⟩ := hu; rfl)
  rw [List.length_map] at hrun
  refine ⟨_, hrun, ?_, fun B w0 hb hg => below_setRow hb hg _⟩
  have := setRow_heap w g _ (List.take m (zs.map (Value.int .i64)).toArray.toList ++ ys.map (Value.int .i64) ++ List.drop (m + ys.length) (zs.map (Value.int .i64)).toArray.toList).toArray _ _ hB
  unfold Blk
  rw [this]
  simp
theorem and_mask (n : Nat) (h : n ≤ 1000000) : bits .and .u64 (n : Int) 4294967295 = (n : Int) := by
  have h1 := u64_and n 4294967295 (by omega) (by omega)
  rw [show ((4294967295 : Nat) : Int) = 4294967295 from rfl] at h1
  rw [h1, show (4294967295 : Nat) = 2 ^ 32 - 1 from rfl, Nat.and_two_pow_sub_one_eq_mod, Nat.mod_eq_of_lt (by omega)]
theorem mul64_one (n : Nat) (w : World) (h : n ≤ 1000000) : Calls Tryd.prog 137 #[.int .u64 1, .int .u64 n] w fun e w' => e = .returned (.tuple #[.int .u64 0, .int .u64 n]) ∧ w' = w := by
  have h1 := and_mask n h
  have h2 : (n : Int) / 4294967296 = 0 := by omega
  have h3 : bits .and .u64 (1 : Int) 4294967295 = 1 := by decide
  have h4 : bits .and .u64 (0 : Int) 4294967295 = 0 := by decide
  go_enter Tryd.func137, Tryd.ntmps137
  go_wp2_with fail
  exact bodyPost_ret (v := .tuple #[.int .u64 0, .int .u64 n]) (by simp [results, Tryd.results137, go_sem]) rfl ⟨rfl, rfl⟩
theorem mul_one (n : Nat) (w : World) (h : n ≤ 1000000) : Calls Tryd.prog 123 #[.int .u64 1, .int .u64 n] w fun e w' => e = .returned (.tuple #[.int .u64 0, .int .u64 n]) ∧ w' = w := by
  have HC := hideH (mul64_one n w h)
  go_enter Tryd.func123, Tryd.ntmps123
  go_wp2_with fail
  refine Calls.mono HC.out ?_
  rintro e w' ⟨rfl, rfl⟩
  go_wp2_with fail
  exact bodyPost_ret (v := .tuple #[.int .u64 0, .int .u64 n]) (by simp [results, Tryd.results123, go_sem]) rfl ⟨rfl, rfl⟩
/-- What Repeat has made after m. -/
def rep (v : Int) (n m : Nat) : List Int := List.replicate m v ++ List.replicate (n - m) 0
theorem rep_len (v : Int) (n m : Nat) (h : m ≤ n) : (rep v n m).length = n := by simp [rep]; omega
theorem rep_zero (v : Int) (n : Nat) : rep v n 0 = List.replicate n 0 := by simp [rep]
theorem rep_all (v : Int) (n : Nat) : rep v n n = List.replicate n v := by simp [rep]
theorem rep_more (v : Int) (n m k : Nat) (h : m + k ≤ n) : (rep v n m).take m ++ List.replicate k v ++ (rep v n m).drop (m + k) = rep v n (m + k) := by
  unfold rep
  rw [List.take_left' (by simp), List.drop_append, List.drop_eq_nil_of_le (by simp), List.nil_append, List.drop_replicate, List.length_replicate, List.replicate_append_replicate]
  congr 2
  omega
theorem rep_head (v : Int) (n m k : Nat) (h : k ≤ m) : (rep v n m).take k = List.replicate k v := by
  unfold rep
  rw [List.take_append_of_le_length (by simpa using h), List.take_replicate, Nat.min_eq_left h]
theorem Row64.taken {w : World} {ao : Option Addr} {zs : List Int} (h : Row64 w ao zs) (k : Nat) : Row64 w ao (zs.take k) := by
  intro i hi
  rw [List.length_take] at hi
  obtain ⟨b, o, e, hc⟩ := h i (by omega)
  refine ⟨b, o, e, ?_⟩
  rw [hc]
  simp [List.getD, (by omega : i < k)]
set_option maxRecDepth 100000 in
set_option maxHeartbeats 6400000 in
theorem repeat_one (b off c n : Nat) (v : Int) (w : World) (hr : Row64 w (some ⟨b, off, none⟩) [v]) (h0 : 0 < n) (hn : n ≤ 1000) :
    Calls Tryd.prog 94 #[.slice (some ⟨b, off, none⟩) 1 c, .int .i64 n] w fun e w' => e = .returned (.slice (some ⟨w.heap.size, 0, none⟩) n n) ∧ Blk w' w.heap.size (List.replicate n v) ∧ Below w.heap.size w w' := by
  obtain ⟨i0, hi, hz0, hz1, hz2⟩ := info_parts Tryd.info_i64
  have HM := hideH (mul_one n w (by omega))
  have wn : IntKind.u64.wrap (n : Int) = (n : Int) := by rw [IntKind.wrap_u64]; omega
  have HR := hideH hr
  clear hr
  go_enter Tryd.func94, Tryd.ntmps94
  go_wp2_with fail
  refine Calls.mono HM.out ?_
  rintro e w' ⟨rfl, rfl⟩
  go_wp2_with (at_make; refine wpList_make_full _ rfl _ _ 23 rfl w'.heap.size 2 i0 (.int .i64 0) 1 Tryd.underlying23 hi hz0 hz1 _ _ _ _ n rfl rfl rfl rfl (by rw [hz2]; omega) (by unfold maxLen; omega) (Nat.le_refl _) ?_)
  intro w1 hown hgrow
  rw [toList_madeCells_one, ← List.map_replicate, ← rep_zero v n] at hown
  obtain ⟨hB1, _⟩ := Blk.of hown
  have hb1 : Below w'.heap.size w' w1 := (Below.refl _ _).grown hgrow (Nat.le_refl _) (by simp)
  obtain ⟨w2, hrun, hB2, hb2⟩ := copy_blk w1 w'.heap.size (rep v n 0) (List.replicate 1 v) 0 n n 1 c ⟨b, off, none⟩ hB1 (HR.out.below hb1) (by rw [List.length_replicate]; exact (Nat.min_eq_left h0).symm) (by rw [rep_len _ _ _ (by omega)]; simp; omega)
  rw [List.length_replicate, rep_more v n 0 1 (by omega)] at hB2
  have HBk2 := hideH hB2
  have HB2 := hideH (hb2 _ _ hb1 (Nat.le_refl _))
  rw [List.length_replicate] at hrun
  clear hown hgrow hB1 hb1 hB2 hb2
  go_wp2_with fail
  clear hrun
  go_loopw [8] (fun i wr => ∃ m : Nat, 0 < m ∧ m ≤ n ∧ i = .int .i64 m ∧ Hid (Blk wr w'.heap.size (rep v n m)) ∧ Hid (Below w'.heap.size w' wr)) (fun i _ => n - (intOf i).toNat)
  case atStart => exact ⟨1, by omega, by omega, rfl, HBk2, HB2⟩
  case round =>
    clear HBk2 HB2
    obtain ⟨m, hm0, hmn, rfl, HBk, HB⟩ := hrel
    by_cases hlt : m < n
    · obtain ⟨k, hk⟩ : ∃ k, Nat.min m (n - m) = k := ⟨_, rfl⟩
      have hk1 : k ≤ m := by rw [← hk]; exact Nat.min_le_left _ _
      have hk2 : k ≤ n - m := by rw [← hk]; exact Nat.min_le_right _ _
      have hk3 : 0 < k := by rw [← hk]; exact Nat.lt_min.2 ⟨hm0, by omega⟩
      obtain ⟨w3, hrun, hB3, hb3⟩ := copy_blk wr.drew w'.heap.size (rep v n m) (List.replicate k v) m (n - m) (n - m) m n ⟨w'.heap.size, 0, none⟩ HBk.out (by rw [← rep_head v n m k hk1]; exact (Blk.row (w := wr.drew) HBk.out).taken k) (by simp [hk]) (by rw [rep_len _ _ _ hmn]; simp; omega)
      rw [List.length_replicate, rep_more v n m k (by omega)] at hB3
      rw [List.length_replicate] at hrun
      have HBk3 := hideH hB3
      have HB3 := hideH (hb3 _ _ (HB.out.drew) (Nat.le_refl _))
      clear hB3 hb3 hk
      have hne : ¬ n = m := by omega
      go_upto_region 9 with fail
      go_region
      go_wp2_with fail
      exact ⟨⟨m + k, by omega, by omega, by go_num, HBk3, HB3⟩, by simp [intOf]; omega⟩
    · have e : m = n := by omega
      subst e
      have HF : Hid (Blk wr w'.heap.size (List.replicate m v)) := by rw [← rep_all]; exact HBk.out
      go_wp2_with fail
      go_ret
      exact ⟨rfl, HF.out, HB.out⟩
end Go.Proofs.YtlffdadmgginmaeDoor
namespace Go.Proofs.YtlffdadmgginmaeDoor
open Go.RowKit
attribute [local go_sem ↓] Go.wp_at_zero Go.wp_at_succ
set_option linter.unusedVariables false

theorem own_base {w : World} {B : Nat} {v : Value} {n : Nat} {xs : List Value} (h : w.ownsRow B 2 1 v n xs) : ∀ k, v.ownBlock = some k → B ≤ k := by
  intro k e
  rcases h.2 with ⟨rfl, _⟩ | ⟨g, cap, cur, rfl, hb, _⟩
  · cases e
  · simp [Value.ownBlock] at e
    omega
/-- The lengths have grown. -/
theorem LMem.grow {q p hB : Nat} {zs : List Int} {rdy : Value} {w : World} {c : LC} (h : LMem q p hB zs rdy w c) {B : Nat} {v : Value} (b1 : q < B) (b2 : p < B) (b3 : hB < B) (b4 : B ≤ w.heap.size) (b5 : w.cell? ⟨q, 26, none⟩ = some v) (b6 : w.ownsRow B 2 1 v c.lens.length (c.lens.map (Value.int .i64)))
    (b8 : 4 ≤ c.st → ∃ t S m L w0, w.cell? ⟨q, 25, none⟩ = some (.pointer (some ⟨t, 0, none⟩)) ∧ TabOf c.tb w0 t S m L ∧ q < t ∧ p < t ∧ w0.heap.size ≤ B ∧ ∀ k, t ≤ k → k < w0.heap.size → w.heap[k]? = w0.heap[k]?) (hst : 4 ≤ c.st)
    {w5 w6 : World} (hb : Below w.heap.size w w5) {g cap' m : Nat} {new : List Int} (hm : new.length = m) (hg : w5.grownBy w6 v.ownBlock) (ho : w6.ownsRow B 2 1 (.slice (some ⟨g, 0, none⟩) (c.lens.length + m) cap') (c.lens.length + m) (c.lens.map (Value.int .i64) ++ new.map (Value.int .i64))) (hat : v.ownBlock = some g ∨ g = w5.heap.size) :
    LMem q p hB zs rdy (w6.setCell ⟨q, 26, none⟩ (.slice (some ⟨g, 0, none⟩) (c.lens.length + m) cap')) { c with lens := c.lens ++ new } ∧ Trod q p w (w6.setCell ⟨q, 26, none⟩ (.slice (some ⟨g, 0, none⟩) (c.lens.length + m) cap')) := by
  have hbase := own_base b6
  have hq := h.lt
  have hs5 := hb.size
  have hs6 := hg.size
  have hBg : B ≤ g := by
    rcases hat with e | e
    · exact hbase g e
    · omega
  have hk : ∀ k, k < B → w6.heap[k]? = w.heap[k]? := fun k hk => (hg.block k (by omega) (fun e => by have := hbase k e.symm; omega)).trans (hb.block k (by omega))
  obtain ⟨V, hV⟩ : ∃ V, Value.slice (some ⟨g, 0, none⟩) (c.lens.length + m) cap' = V := ⟨_, rfl⟩
  have hVo : V.ownBlock = some g := by rw [← hV]; rfl
  rw [hV] at ho ⊢
  have hgs := grownBy_setCell w6 ⟨q, 26, none⟩ V
  have hc6 : ∀ o, w6.cell? ⟨q, o, none⟩ = w.cell? ⟨q, o, none⟩ := fun o => World.cell?_of_block (w := w) (a := ⟨q, o, none⟩) (hk q b1)
  have hc : ∀ o, o ≠ 26 → (w6.setCell ⟨q, 26, none⟩ V).cell? ⟨q, o, none⟩ = w.cell? ⟨q, o, none⟩ := fun o ho => (World.cell?_setCell_other _ _ _ _ (by first | (simp; done) | (simp; omega))).trans (hc6 o)
  have h26 : (w6.setCell ⟨q, 26, none⟩ V).cell? ⟨q, 26, none⟩ = some V := World.cell?_setCell_same _ _ _ ((hc6 26).trans b5)
  have hk2 : ∀ k, k < B → k ≠ q → (w6.setCell ⟨q, 26, none⟩ V).heap[k]? = w.heap[k]? := fun k h1 h2 => (hgs.block k (by omega) (by simpa using h2)).trans (hk k h1)
  have h2' := h.two
  refine ⟨⟨h.ne, h.neh, h.two, ?_, (hc 0 (by omega)).trans h.c0, ?_, ?_, ?_, (hc 28 (by omega)).trans h.c28, ?_, ?_, ?_, ?_⟩, ?_⟩
  · exact ((h.rd.below hb).grown hg (fun e => by have := hbase p e.symm; omega) (fun e => by have := hbase hB e.symm; omega)).grown hgs (by simp; exact Ne.symm h.ne) (by simp; exact h.neh)
  · obtain ⟨old, ho⟩ := h.c1
    exact ⟨old, (hc 1 (by omega)).trans ho⟩
  · intro j hj
    rw [hc j (by unfold isNum at hj; omega)]
    exact h.num j hj
  · obtain ⟨old, ho⟩ := h.c25
    exact ⟨old, (hc 25 (by omega)).trans ho⟩
  · intro j
    rw [World.frozen?_setCell, World.frozen?_of_block (w := w) (a := ⟨q, j, none⟩) (hk q b1)]
    exact h.free j
  · refine ⟨B, V, b1, b2, b3, by have := hgs.size; omega, h26, ?_, ?_, fun _ => ?_⟩
    · have := ho.kept hgs (.inr (by rw [hVo]; simp; omega))
      rw [← List.map_append] at this
      rw [List.length_append, hm]
      exact this
    · intro h1 h3
      have : c.st ≤ 3 := h3
      omega
    · obtain ⟨t, S, m, L, w0, x1, x2, x3, x4, x5, x6⟩ := b8 hst
      exact ⟨t, S, m, L, w0, (hc 25 (by omega)).trans x1, x2, x3, x4, x5, fun k k1 k2 => (hk2 k (by omega) (by omega)).trans (x6 k k1 k2)⟩
  · rw [World.cell?_of_block (w := w) (a := ⟨1, 0, none⟩) (hk2 1 (by omega) (by omega))]
    exact h.g0
  · intro k hk3
    rw [World.cell?_of_block (w := w) (a := ⟨2, k, none⟩) (hk2 2 (by omega) (by omega))]
    exact h.g1 k hk3
  · refine ⟨hgs.os.trans (hg.os.trans hb.os), hgs.tape.trans (hg.tape.trans hb.tape), hgs.output.trans (hg.output.trans hb.output), by have := hgs.size; omega, ?_, (fun o ho => hc o (by omega)), ?_⟩
    · intro k k1 k2 k3 k4
      exact (hgs.block k (by omega) (by simpa using k2)).trans ((hg.block k (by omega) (fun e => k4 v b5 e.symm)).trans (hb.block k k1))
    · intro v' k h1 h2
      rw [h26] at h1
      cases h1
      rw [hVo] at h2
      cases h2
      rcases hat with e | e
      · exact .inr ⟨v, b5, e⟩
      · exact .inl (by omega)
theorem Blk.news {w : World} {g : Nat} {zs : List Int} (h : Blk w g zs) (hb : zs.length ≤ maxLen) : ∀ j u, (zs.map (Value.int .i64))[j]? = some u → w.cell? ((⟨g, 0, none⟩ : Addr).add j) = some u := by
  have hl : (zs.map (Value.int .i64)).length = zs.length * 1 := by simp
  have : w.ownsRow 0 2 1 (.slice (some ⟨g, 0, none⟩) zs.length zs.length) zs.length (zs.map (Value.int .i64)) := ⟨hl, .inr ⟨g, zs.length, _, rfl, Nat.zero_le _, h, Nat.le_refl _, hb, by simp, List.take_of_length_le (by simp)⟩⟩
  exact this.cells rfl
end Go.Proofs.YtlffdadmgginmaeDoor
namespace Go.Proofs.YtlffdadmgginmaeDoor
open Go.RowKit
attribute [local go_sem ↓] Go.wp_at_zero Go.wp_at_succ
set_option linter.unusedVariables false

theorem row1_new (W : World) (x : Int) (T : TypeId) : Row64 (W.alloc (.cells #[.int .i64 x] T)) (some ⟨W.heap.size, 0, none⟩) [x] := by
  intro i hi
  have : i = 0 := by simp at hi; omega
  subst this
  exact ⟨W.heap.size, 0, rfl, by simp [go_sem]⟩
set_option maxRecDepth 100000 in
set_option maxHeartbeats 1600000 in
theorem add_any (q p hB : Nat) (zs : List Int) (rdy : Value) (c : LC) (x : Int) (t : Nat) (w : World) (hM : LMem q p hB zs rdy w c) (hI : LInv c) (ht1 : 1 ≤ t) (ht2 : t ≤ 138) (r : LC ⊕ (Int × LC)) (hr : addS c x t = r) :
    Calls Tryd.prog 140 #[.pointer (some ⟨q, 0, none⟩), .int .i64 x, .int .i64 (t : Nat)] w fun e w' => LPost q p hB zs rdy r e w w' := by
  obtain ⟨i0, hi, hz0, hz1, hz2⟩ := info_parts Tryd.info_i64
  have hqw := hM.lt
  obtain ⟨lo, cap, c26⟩ := hM.slice
  obtain ⟨l, hl⟩ : ∃ l : Nat, c.f 2 = (l : Int) := ⟨(c.f 2).toNat, by have := hI.l1; omega⟩
  obtain ⟨d, hd⟩ : ∃ d : Nat, c.f 3 = (d : Int) := ⟨(c.f 3).toNat, by have := hI.d1; omega⟩
  have c2 := hM.num 2 (by unfold isNum; omega)
  have c3 := hM.num 3 (by unfold isNum; omega)
  rw [hl] at c2
  rw [hd] at c3
  have k1 := hI.l1
  have k2 := hI.l2
  have k3 := hI.d1
  have k4 := hI.d2
  have k5 := hI.n
  rw [hl] at k1 k2 k5
  rw [hd] at k3 k4 k5
  unfold addS at hr
  rw [hl, hd, Int.toNat_natCast] at hr
  have HM := hideM hM
  have HI := hideM hI
  have HR := hideM hr
  have HL := hideM hl
  clear hM hI hr hl hd
  obtain ⟨N, hN⟩ : ∃ N, c.lens.length = N := ⟨_, rfl⟩
  rw [hN] at c26 k5 HR
  have HN := hideM hN
  clear hN
  go_enter Tryd.func140, Tryd.ntmps140
  go_upto_region 1 with fail
  go_region
  have hM1 := HM.out.below ((Below.refl _ _).drew : Below w.heap.size w w.drew)
  have hT1 : Trod q p w w.drew := Trod.below hqw ((Below.refl _ _).drew)
  have d26 : w.drew.cell? ⟨q, 26, none⟩ = some (.slice lo N cap) := c26
  have HM1 := hideM hM1
  have HT1 := hideM hT1
  clear HM hM1 hT1 c26
  by_cases hgt : (t : Int) > (l : Int) + (d : Int) - (N : Int)
  · have hgb : decide ((t : Int) > (l : Int) + (d : Int) - (N : Int)) = true := decide_eq_true hgt
    have HF : Hid (LPost q p hB zs rdy r (.returned (.tuple #[.nilFunc, flt 3])) w w.drew) := by
      show LPost _ _ _ _ _ _ _ _ _
      rw [← HR.out, if_pos hgt]
      exact LPost.no HM1.out HT1.out
    go_wp2_with fail
    exact bodyPost_ret (v := .tuple #[.nilFunc, flt 3]) (by simp [results, Tryd.results140, go_sem, flt]) rfl HF.out
  · have hgb : decide ((t : Int) > (l : Int) + (d : Int) - (N : Int)) = false := decide_eq_false hgt
    go_upto_region 4 with fail
    generalize w.drew = w1 at *
    obtain ⟨B, v, b1, b2, b3, b4, b5, b6, _, b8⟩ := HM1.out.own
    have hv : v = .slice lo N cap := Option.some.inj (b5.symm.trans d26)
    subst hv
    have hq1 := HM1.out.lt
    have HG : Hid (∀ (w5 w6 : World) (g cap' : Nat), Below w1.heap.size w1 w5 → w5.grownBy w6 (Value.slice lo N cap).ownBlock → w6.ownsRow B 2 1 (.slice (some ⟨g, 0, none⟩) (N + t) cap') (N + t) (c.lens.map (Value.int .i64) ++ (List.replicate t x).map (Value.int .i64)) → ((Value.slice lo N cap).ownBlock = some g ∨ g = w5.heap.size) →
        LMem q p hB zs rdy (w6.setCell ⟨q, 26, none⟩ (.slice (some ⟨g, 0, none⟩) (N + t) cap')) { c with lens := c.lens ++ List.replicate t x } ∧ Trod q p w1 (w6.setCell ⟨q, 26, none⟩ (.slice (some ⟨g, 0, none⟩) (N + t) cap'))) := by
      intro w5 w6 g cap' hb hg ho hat
      have hn := HN.out
      rw [← hn] at hg ho hat b5 b6 ⊢
      exact HM1.out.grow (w5 := w5) (w6 := w6) (g := g) (cap' := cap') (m := t) (new := List.replicate t x) b1 b2 b3 b4 b5 b6 b8 HI.out.st hb (List.length_replicate) hg ho hat
    have HBS := hideM (own_base b6)
    rw [HN.out] at b6
    have HOW := hideM (fun (W : World) (hb : Below w1.heap.size w1 W) => ownsRow_up b6 hb)
    have hsz : (w1.alloc (.cells #[.int .i64 x] 2)).drew.heap.size = w1.heap.size + 1 := by
      show (w1.alloc (.cells #[.int .i64 x] 2)).heap.size = _
      simp
    have HRP : Hid (Calls Tryd.prog 94 #[.slice (some ⟨w1.heap.size, 0, none⟩) 1 1, .int .i64 (t : Nat)] (w1.alloc (.cells #[.int .i64 x] 2)).drew fun e w' => e = .returned (.slice (some ⟨w1.heap.size + 1, 0, none⟩) t t) ∧ Blk w' (w1.heap.size + 1) (List.replicate t x) ∧ Below w1.heap.size w1 w') := by
      refine Calls.mono (repeat_one w1.heap.size 0 1 t x (w1.alloc (.cells #[.int .i64 x] 2)).drew ((row1_new w1 x 2).below ((Below.refl _ _).drew)) ht1 (by omega)) ?_
      rintro e w' ⟨rfl, h1, h2⟩
      rw [hsz] at h1 h2 ⊢
      exact ⟨rfl, h1, (((Below.refl _ _).alloc (Nat.le_refl _) _).drew).trans (h2.mono (by omega))⟩
    clear hsz
    have hg5 : ∃ g5, w1.heap.size + 1 = g5 := ⟨_, rfl⟩
    obtain ⟨g5, hg5⟩ := hg5
    rw [hg5] at HRP
    have HG5 := hideM hg5
    clear hg5
    have f26 := HM1.out.free 26
    have HB1 := hideM b1
    have HB4 := hideM b4
    have hlen : ((List.replicate t x).map (Value.int .i64)).length = t * 1 := by simp
    have HON : Hid (∀ u ∈ (List.replicate t x).map (Value.int .i64), u.oneCell' = true) := by
      intro u hu
      simp at hu
      obtain ⟨_, rfl⟩ := hu
      rfl
    have H63 : Hid (N + t ≤ maxLen) := by unfold maxLen; show _ ≤ _; omega
    have H64 : Hid ((N + t) * 8 ≤ 140737488355328) := by show _ ≤ _; omega
    have HT0 : Hid (0 < t) := by show _ < _; omega
    have HRL : Hid ((List.replicate t x).length ≤ maxLen) := by show _ ≤ _; rw [List.length_replicate]; unfold maxLen; omega
    have HLN := hideM hlen
    clear b1 b2 b3 b4 b5 b6 b8 c2 c3 hlen
    generalize hXS : c.lens.map (Value.int .i64) = XS at *
    go_cut [29] from 30 to 52 (fun v wx => v = .pointer (some ⟨q, 0, none⟩) ∧ Hid (LMem q p hB zs rdy wx { c with lens := c.lens ++ List.replicate t x }) ∧ Hid (Trod q p w1 wx))
    case first =>
      go_region_law (first
        | (go_simp; go_at_call 94; refine HRP.out.mono ?_; rintro e w5 ⟨rfl, hblk, hb6⟩; have k26 := (hb6.cell (p := ⟨q, 26, none⟩) hq1).trans d26; have l26 := (hb6.frozen (p := ⟨q, 26, none⟩) hq1).trans f26; have HOW5 := hideM (HOW.out w5 hb6); have HNW5 := hideM (hblk.news HRL.out); have HBH5 : Hid (B ≤ w5.heap.size) := Nat.le_trans HB4.out hb6.size; have hs5 := hb6.size; have HB6 := hideM hb6; clear hb6 hblk)
        | (refine step_append_lies _ rfl (.tmp 33) (.tmp 37) 23 rfl B 2 i0 (.int .i64 0) 1 8 Tryd.underlying23 hi hz0 hz1 hz2 rfl (by decide) (.slice lo N cap) N XS (by simp [Act.eval]) HOW5.out ⟨g5, 0, none⟩ t t ((List.replicate t x).map (Value.int .i64)) (by simp [Act.eval]) HLN.out HNW5.out HON.out HT0.out H63.out H64.out HBH5.out _ rfl ?_; intro g cap' w6 hown hgrow hat hlt; have m26 : w6.cell? ⟨q, 26, none⟩ = some (.slice lo N cap) := hgrow.cell k26 (fun e => by have := HBS.out q e.symm; have := HB1.out; omega); have n26 : w6.frozen? ⟨q, 26, none⟩ = false := (World.frozen?_of_block (w := w5) (a := ⟨q, 26, none⟩) (hgrow.block q (by omega) (fun e => by have := HBS.out q e.symm; have := HB1.out; omega))).trans l26))
      all_goals
        have hGR := HG.out w5 w6 g cap' HB6.out hgrow hown hat
        have HA := hideM hGR.1
        have HBB := hideM hGR.2
        clear hGR hown hgrow hat m26 n26 k26 l26 d26
        go_wp2_with fail
        go_meet
        exact ⟨rfl, HA, HBB⟩
    case rest =>
      obtain ⟨rfl, HA, HBB⟩ := hcut
      clear HG HBS HOW HRP f26 HB1 HB4 HON H63 H64 HT0 HRL HLN d26
      have HT2 := hideM (HT1.out.trans HBB.out)
      have hqc := HA.out.lt
      by_cases hlt : (t : Int) < (l : Int) + (d : Int) - (N : Int)
      · have hlb : decide ((t : Int) < (l : Int) + (d : Int) - (N : Int)) = true := decide_eq_true hlt
        have HF : Hid (LPost q p hB zs rdy r (.returned (.tuple #[.func (Fn.func 126) #[.pointer (some ⟨q, 0, none⟩)] #[], .nilIface])) w wc) := by
          show LPost _ _ _ _ _ _ _ _ _
          rw [← HR.out, if_neg hgt, if_pos hlt]
          exact LPost.ok rfl (HA.out.at 4 (fun _ h => by omega) (fun _ => HI.out.st)) HT2.out
        clear HR
        go_wp2_with fail
        exact bodyPost_ret (v := .tuple #[.func (Fn.func 126) #[.pointer (some ⟨q, 0, none⟩)] #[], .nilIface]) (by simp [results, Tryd.results140, go_sem]) rfl HF.out
      · have hlb : decide ((t : Int) < (l : Int) + (d : Int) - (N : Int)) = false := decide_eq_false hlt
        have hlen : (c.lens ++ List.replicate t x).length = N + t := by rw [List.length_append, HN.out, List.length_replicate]
        obtain ⟨g, cap2, e26, hcap, hrow⟩ := HA.out.last (by show 0 < (c.lens ++ List.replicate t x).length; omega)
        have e2 := HA.out.num 2 (by unfold isNum; omega)
        have e28 := HA.out.c28
        have hdr : Below wc.heap.size wc wc.drew := (Below.refl _ _).drew
        have HCK := hideM (checkLens_any q g cap2 l (c.lens ++ List.replicate t x) wc.drew e26 (by show wc.cell? _ = _; rw [e2]; show some (Value.int .i64 (c.f 2)) = _; rw [HL.out]) (by omega) hcap (by omega) (hrow.below hdr) (by omega))
        have HR2 : Hid ((if chk ((c.lens ++ List.replicate t x).take l) ((c.lens ++ List.replicate t x).drop l) then Sum.inl { c with st := 6, lens := c.lens ++ List.replicate t x } else Sum.inr ((3 : Int), { c with lens := c.lens ++ List.replicate t x })) = r) := by
          show _ = _
          rw [← HR.out, if_neg hgt, if_neg hlt]
        clear HR e26 e2 hcap hrow hlen HT1 HBB HM1
        by_cases hck : chk ((c.lens ++ List.replicate t x).take l) ((c.lens ++ List.replicate t x).drop l)
        · have HC1 : Hid (Calls Tryd.prog 145 #[.pointer (some ⟨q, 0, none⟩)] wc.drew fun e w' => e = .returned .nilIface ∧ Below wc.heap.size wc w') := Calls.mono HCK.out (fun e w' h => ⟨h.1.1 hck, hdr.trans h.2⟩)
          have HX : Hid (r = Sum.inl { c with st := 6, lens := c.lens ++ List.replicate t x }) := by
            show _ = _
            rw [← HR2.out, if_pos hck]
          clear HCK HR2 hck hdr
          go_upto_region 7 with fail
          go_region_held3 (fun w' => w'.cell? ⟨q, 28, none⟩ = some rdy)
            (first | (with_reducible assumption) | (go_keep; done))
            ((go_at_call 145; refine Calls.mono HC1.out ?_; rintro e w8 ⟨rfl, hb8⟩; have k28 := (hb8.cell (p := ⟨q, 28, none⟩) hqc).trans e28))
          have HF : Hid (LPost q p hB zs rdy r (.returned (.tuple #[rdy, .nilIface])) w w8) := by
            show LPost _ _ _ _ _ _ _ _ _
            rw [HX.out]
            exact LPost.ok (show rdy = lnow q rdy 6 from (if_neg (by decide)).symm) ((HA.out.below hb8).at 6 (fun _ h => by omega) (fun _ => HI.out.st)) (HT2.out.trans (Trod.below hqc hb8))
          clear hb8 HX HC1
          go_wp2_with fail
          exact bodyPost_ret (v := .tuple #[rdy, .nilIface]) (by simp [results, Tryd.results140, go_sem]) rfl HF.out
        · have HC1 : Hid (Calls Tryd.prog 145 #[.pointer (some ⟨q, 0, none⟩)] wc.drew fun e w' => e = .returned (flt 3) ∧ Below wc.heap.size wc w') := Calls.mono HCK.out (fun e w' h => ⟨h.1.2 hck, hdr.trans h.2⟩)
          have HX : Hid (r = Sum.inr ((3 : Int), { c with lens := c.lens ++ List.replicate t x })) := by
            show _ = _
            rw [← HR2.out, if_neg hck]
          obtain ⟨V2, hV2⟩ : ∃ V2, flt 3 = V2 := ⟨_, rfl⟩
          rw [hV2] at HC1
          have HV2 := hideM hV2
          clear HCK HR2 hck hdr hV2
          go_upto_region 7 with fail
          go_region_held3 (fun w' => w'.cell? ⟨q, 28, none⟩ = some rdy)
            (first | (with_reducible assumption) | (go_keep; done))
            ((go_at_call 145; refine Calls.mono HC1.out ?_; rintro e w8 ⟨rfl, hb8⟩; have k28 := (hb8.cell (p := ⟨q, 28, none⟩) hqc).trans e28))
          have HF : Hid (LPost q p hB zs rdy r (.returned (.tuple #[rdy, V2])) w w8) := by
            show LPost _ _ _ _ _ _ _ _ _
            rw [HX.out, ← HV2.out]
            exact LPost.no (HA.out.below hb8) (HT2.out.trans (Trod.below hqc hb8))
          clear hb8 HX HC1
          go_wp2_with fail
          exact bodyPost_ret (v := .tuple #[rdy, V2]) (by simp [results, Tryd.results140, go_sem]) rfl HF.out
theorem add_ok (q p hB : Nat) (zs : List Int) (rdy : Value) : AddOK q p hB zs rdy := fun c x t w hM hI h1 h2 => add_any q p hB zs rdy c x t w hM hI h1 h2 _ rfl
end Go.Proofs.YtlffdadmgginmaeDoor
namespace Go.Proofs.YtlffdadmgginmaeDoor
open Go.RowKit
attribute [local go_sem ↓] Go.wp_at_zero Go.wp_at_succ
set_option linter.unusedVariables false

/-- A symbol is one of the code's. -/
theorem AnsN.sym {ls : List Int} {b n s l : Nat} (h : AnsN ls b n 1 s l) : s < ls.length := by
  unfold AnsN at h
  split at h
  · rcases h with ⟨i, h1, h2, _, h3, h4⟩ | ⟨i, _, _, h3, _⟩ | ⟨_, h3, _⟩
    · have h6 := h1.1.lt
      omega
    · omega
    · omega
  · omega
theorem nx3_sym {ls : List Int} {b n : Nat} (h : (nx3 ls b n).1 = 1) : (nx3 ls b n).2.1 < ls.length ∧ (nx3 ls b n).2.2 ≤ n := by
  have h2 := nx3_is ls b n
  rw [h] at h2
  exact ⟨h2.sym, h2.len.1⟩
/-- Which state comes next is no matter of the memory's. -/
theorem LMem.next {q p hB : Nat} {zs : List Int} {rdy : Value} {w : World} {c : LC} (h : LMem q p hB zs rdy w c) (v : Value) : LMem q p hB zs rdy (w.setCell ⟨q, 1, none⟩ v) c := by
  have hq := h.lt
  have hc : ∀ o, o ≠ 1 → (w.setCell ⟨q, 1, none⟩ v).cell? ⟨q, o, none⟩ = w.cell? ⟨q, o, none⟩ := fun o ho => World.cell?_setCell_other _ _ _ _ (by first | (simp; done) | (simp; omega))
  have hg := grownBy_setCell w ⟨q, 1, none⟩ v
  obtain ⟨B, u, b1, b2, b3, b4, b5, b6, b7, b8⟩ := h.own
  obtain ⟨old, ho⟩ := h.c1
  refine ⟨h.ne, h.neh, h.two, h.rd.grown hg (by simp; exact Ne.symm h.ne) (by simp; exact h.neh), (hc 0 (by omega)).trans h.c0, ⟨v, World.cell?_setCell_same _ _ _ ho⟩, ?_, ?_, (hc 28 (by omega)).trans h.c28, ?_, ?_, ?_, ?_⟩
  · intro j hj
    rw [hc j (by unfold isNum at hj; omega)]
    exact h.num j hj
  · obtain ⟨old, ho⟩ := h.c25
    exact ⟨old, (hc 25 (by omega)).trans ho⟩
  · intro j
    rw [World.frozen?_setCell]
    exact h.free j
  · refine ⟨B, u, b1, b2, b3, Nat.le_trans b4 hg.size, (hc 26 (by omega)).trans b5, ?_, b7, ?_⟩
    · refine b6.kept hg ?_
      obtain ⟨_, hx⟩ := b6
      rcases hx with ⟨rfl, _⟩ | ⟨g, cap, cur, rfl, hb, _⟩
      · exact .inl rfl
      · refine .inr ?_
        simp [Value.ownBlock]
        omega
    · intro hs
      obtain ⟨t, S, m, L, w0, h1, h2, h3, h4, h5, h6⟩ := b8 hs
      refine ⟨t, S, m, L, w0, (hc 25 (by omega)).trans h1, h2, h3, h4, h5, fun j k1 k2 => ?_⟩
      rw [← h6 j k1 k2]
      exact hg.block j (by omega) (by simp; omega)
  · exact hg.cell h.g0 (by simp; have := h.two; omega)
  · exact fun k hk => hg.cell (h.g1 k hk) (by simp; have := h.two; omega)
end Go.Proofs.YtlffdadmgginmaeDoor
namespace Go.Proofs.YtlffdadmgginmaeDoor
open Go.RowKit
attribute [local go_sem ↓] Go.wp_at_zero Go.wp_at_succ
set_option linter.unusedVariables false

/-- What the machine's numbers keep to. -/
structure LWell (c : LC) : Prop where
  s6 : c.st ≤ 6
  lit : 1 ≤ c.st → 257 ≤ c.f 2 ∧ c.f 2 ≤ 286
  dist : 2 ≤ c.st → 1 ≤ c.f 3 ∧ c.f 3 ≤ 30
  zero : 1 ≤ c.st → c.st ≤ 2 → c.f 24 = 0
  cod : c.st = 3 → 0 ≤ c.f 24 ∧ c.f 24 < c.f 4 ∧ c.f 4 ≤ 19
  len0 : 1 ≤ c.st → c.st ≤ 3 → c.lens = []
  len : 4 ≤ c.st → c.st ≤ 5 → (c.lens.length : Int) < c.f 2 + c.f 3
  tb : 4 ≤ c.st → c.tb.length = 19
  rep : c.st = 5 → (c.f 27 = 16 ∧ 0 < c.lens.length) ∨ c.f 27 = 17 ∨ c.f 27 = 18
theorem LWell.none (c : LC) (h : c.st = 0) : LWell c := by
  refine ⟨?_, ?_, ?_, ?_, ?_, ?_, ?_, ?_, ?_⟩ <;> (intros; omega)
theorem LWell.inv {c : LC} (h : LWell c) (h4 : 4 ≤ c.st) (h5 : c.st ≤ 5) : LInv c :=
  ⟨h4, (h.lit (by omega)).1, (h.lit (by omega)).2, (h.dist (by omega)).1, (h.dist (by omega)).2, h.len h4 h5⟩
theorem lit_well {zs : List Int} {c c' : LC} (h : LWell c) (hs : litCountS zs c = .inl c') : LWell c' := by
  unfold litCountS at hs
  split at hs
  · split at hs
    · cases hs
    · rename_i h1 h2
      injection hs with hs
      subst hs
      have e2 : upd (clr (upd c.f 2 ((field (bnum zs) c.i 5 : Nat) + 257))) 24 0 2 = (field (bnum zs) c.i 5 : Nat) + 257 := by simp [upd, clr]
      refine ⟨by show 1 ≤ 6; omega, fun _ => ?_, fun h => ?_, fun _ _ => ?_, fun h => ?_, fun _ _ => rfl, fun h => ?_, fun h => ?_, fun h => ?_⟩
      · dsimp only
        rw [e2]; omega
      · have : 2 ≤ 1 := h
        omega
      · dsimp only
        simp [upd]
      · have : (1 : Nat) = 3 := h
        omega
      · have : 4 ≤ 1 := h
        omega
      · have : 4 ≤ 1 := h
        omega
      · have : (1 : Nat) = 5 := h
        omega
  · cases hs
theorem dist_well {zs : List Int} {c c' : LC} (h : LWell c) (h1 : c.st = 1) (hs : distCountS zs c = .inl c') : LWell c' := by
  unfold distCountS at hs
  split at hs
  · split at hs
    · cases hs
    · rename_i _ h2
      injection hs with hs
      subst hs
      refine ⟨by show 2 ≤ 6; omega, fun _ => ?_, fun _ => ?_, fun _ _ => ?_, fun h => ?_, fun _ _ => h.len0 (by omega) (by omega), fun h => ?_, fun h => ?_, fun h => ?_⟩
      · dsimp only
        rw [upd, if_neg (by decide)]
        exact h.lit (by omega)
      · dsimp only
        rw [upd, if_pos rfl]
        omega
      · dsimp only
        rw [upd, if_neg (by decide)]
        exact h.zero (by omega) (by omega)
      · have : (2 : Nat) = 3 := h
        omega
      · have : 4 ≤ 2 := h
        omega
      · have : 4 ≤ 2 := h
        omega
      · have : (2 : Nat) = 5 := h
        omega
  · cases hs
theorem code_well {zs : List Int} {c c' : LC} (h : LWell c) (h2 : c.st = 2) (hs : codeCountS zs c = .inl c') : LWell c' := by
  unfold codeCountS at hs
  split at hs
  · injection hs with hs
    subst hs
    have hF : field (bnum zs) c.i 4 < 16 := field_lt _ _ _
    refine ⟨by show 3 ≤ 6; omega, fun _ => ?_, fun _ => ?_, fun _ h => ?_, fun _ => ?_, fun _ _ => h.len0 (by omega) (by omega), fun h => ?_, fun h => ?_, fun h => ?_⟩
    · dsimp only
      rw [upd, if_neg (by decide)]
      exact h.lit (by omega)
    · dsimp only
      rw [upd, if_neg (by decide)]
      exact h.dist (by omega)
    · have : 3 ≤ 2 := h
      omega
    · dsimp only
      rw [upd, upd, if_neg (by decide), if_pos rfl, h.zero (by omega) (by omega)]
      omega
    · have : 4 ≤ 3 := h
      omega
    · have : 4 ≤ 3 := h
      omega
    · have : (3 : Nat) = 5 := h
      omega
  · cases hs
end Go.Proofs.YtlffdadmgginmaeDoor
namespace Go.Proofs.YtlffdadmgginmaeDoor
open Go.RowKit
attribute [local go_sem ↓] Go.wp_at_zero Go.wp_at_succ
set_option linter.unusedVariables false

theorem LWell.ati {c : LC} (h : LWell c) (i : Nat) : LWell { c with i := i } := ⟨h.s6, h.lit, h.dist, h.zero, h.cod, h.len0, h.len, h.tb, h.rep⟩
theorem cl1_far (f : Nat → Int) (F j : Nat) (hk : (f 24).toNat < 19) (hj : j < 5 ∨ 24 < j) : cl1 f F j = f j := by
  have := ord19_le _ hk
  unfold cl1
  rw [upd, if_neg (by omega), upd, if_neg (by omega)]
theorem cl1_24 (f : Nat → Int) (F : Nat) : cl1 f F 24 = f 24 + 1 := by
  unfold cl1
  rw [upd, if_pos rfl]
theorem add_well {c c' : LC} {v : Int} {t : Nat} (h : LWell c) (h4 : 4 ≤ c.st) (hs : addS c v t = .inl c') : LWell c' := by
  unfold addS at hs
  split at hs
  · cases hs
  · split at hs
    · rename_i h1 h2
      injection hs with hs
      subst hs
      refine ⟨by show 4 ≤ 6; omega, fun _ => h.lit (by omega), fun _ => h.dist (by omega), fun _ h => ?_, fun h => ?_, fun _ h => ?_, fun _ _ => ?_, fun _ => h.tb h4, fun h => ?_⟩
      · have : 4 ≤ 2 := h
        omega
      · have : (4 : Nat) = 3 := h
        omega
      · have : 4 ≤ 3 := h
        omega
      · dsimp only
        rw [List.length_append, List.length_replicate]
        omega
      · have : (4 : Nat) = 5 := h
        omega
    · split at hs
      · injection hs with hs
        subst hs
        refine ⟨by show 6 ≤ 6; omega, fun _ => h.lit (by omega), fun _ => h.dist (by omega), fun _ h => ?_, fun h => ?_, fun _ h => ?_, fun _ h => ?_, fun _ => h.tb h4, fun h => ?_⟩
        · have : 6 ≤ 2 := h
          omega
        · have : (6 : Nat) = 3 := h
          omega
        · have : 6 ≤ 3 := h
          omega
        · have : 6 ≤ 5 := h
          omega
        · have : (6 : Nat) = 5 := h
          omega
      · cases hs
theorem codeLen_well {zs : List Int} {c c' : LC} (h : LWell c) (h3 : c.st = 3) (hs : codeLenS zs c = .inl c') : LWell c' := by
  obtain ⟨k1, k2, k3⟩ := h.cod h3
  have hk : (c.f 24).toNat < 19 := by omega
  unfold codeLenS at hs
  split at hs
  · split at hs
    · rename_i _ hlt
      injection hs with hs
      subst hs
      refine ⟨by show 3 ≤ 6; omega, fun _ => ?_, fun _ => ?_, fun _ h => ?_, fun _ => ?_, fun _ _ => h.len0 (by omega) (by omega), fun h => ?_, fun h => ?_, fun h => ?_⟩
      · dsimp only
        rw [cl1_far _ _ _ hk (by omega)]
        exact h.lit (by omega)
      · dsimp only
        rw [cl1_far _ _ _ hk (by omega)]
        exact h.dist (by omega)
      · have : 3 ≤ 2 := h
        omega
      · dsimp only
        rw [cl1_24, cl1_far _ _ _ hk (by omega)]
        omega
      · have : 4 ≤ 3 := h
        omega
      · have : 4 ≤ 3 := h
        omega
      · have : (3 : Nat) = 5 := h
        omega
    · split at hs
      · injection hs with hs
        subst hs
        have l0 := h.len0 (by omega) (by omega)
        have a1 := h.lit (by omega)
        have a2 := h.dist (by omega)
        refine ⟨by show 4 ≤ 6; omega, fun _ => ?_, fun _ => ?_, fun _ h => ?_, fun h => ?_, fun _ h => ?_, fun _ _ => ?_, fun _ => cl19_len _, fun h => ?_⟩
        · dsimp only
          rw [cl1_far _ _ _ hk (by omega)]
          exact a1
        · dsimp only
          rw [cl1_far _ _ _ hk (by omega)]
          exact a2
        · have : 4 ≤ 2 := h
          omega
        · have : (4 : Nat) = 3 := h
          omega
        · have : 4 ≤ 3 := h
          omega
        · dsimp only
          rw [cl1_far _ _ _ hk (by omega), cl1_far _ _ _ hk (by omega), l0]
          simp only [List.length_nil]
          omega
        · have : (4 : Nat) = 5 := h
          omega
      · cases hs
  · cases hs
theorem nextLen_well {zs : List Int} {c c' : LC} {n : Nat} (h : LWell c) (h4 : c.st = 4) (hs : nextLenS zs c n = .inl c') : LWell c' := by
  unfold nextLenS at hs
  split at hs
  · rename_i hk
    have hsy := nx3_sym hk
    rw [h.tb (by omega)] at hsy
    split at hs
    · exact add_well (h.ati _) (by show 4 ≤ c.st; omega) hs
    · split at hs
      · cases hs
      · rename_i g1 g2
        injection hs with hs
        subst hs
        refine ⟨by show 5 ≤ 6; omega, fun _ => ?_, fun _ => ?_, fun _ h => ?_, fun h => ?_, fun _ h => ?_, fun _ _ => ?_, fun _ => h.tb (by omega), fun _ => ?_⟩
        · dsimp only
          rw [upd, if_neg (by decide)]
          exact h.lit (by omega)
        · dsimp only
          rw [upd, if_neg (by decide)]
          exact h.dist (by omega)
        · have : 5 ≤ 2 := h
          omega
        · have : (5 : Nat) = 3 := h
          omega
        · have : 5 ≤ 3 := h
          omega
        · dsimp only
          rw [upd, upd, if_neg (by decide), if_neg (by decide)]
          exact h.len (by omega) (by omega)
        · dsimp only
          rw [upd, if_pos rfl]
          generalize (nx3 c.tb (field (bnum zs) c.i n) n).2.1 = s at *
          omega
  · split at hs
    · cases hs
    · cases hs
theorem repeat_well {zs : List Int} {c c' : LC} (h : LWell c) (h5 : c.st = 5) (hs : repeatS zs c = .inl c') : LWell c' := by
  unfold repeatS at hs
  split at hs
  · exact add_well (h.ati _) (by show 4 ≤ c.st; omega) hs
  · cases hs
end Go.Proofs.YtlffdadmgginmaeDoor
namespace Go.Proofs.YtlffdadmgginmaeDoor
open Go.RowKit
attribute [local go_sem ↓] Go.wp_at_zero Go.wp_at_succ
set_option linter.unusedVariables false

/-- A step of the machine for lengths. -/
def lstep0 (zs : List Int) (c : LC) : LC ⊕ (Int × LC) :=
  if c.st = 0 then litCountS zs c else if c.st = 1 then distCountS zs c else if c.st = 2 then codeCountS zs c else if c.st = 3 then codeLenS zs c else if c.st = 4 then nextLenS zs c (Nat.min (8 * zs.length - c.i) 15) else repeatS zs c
theorem lstep0_well {zs : List Int} {c c' : LC} (h : LWell c) (h5 : c.st ≤ 5) (hs : lstep0 zs c = .inl c') : LWell c' := by
  unfold lstep0 at hs
  split at hs
  · exact lit_well h hs
  · split at hs
    · rename_i h1
      exact dist_well h h1 hs
    · split at hs
      · rename_i h1
        exact code_well h h1 hs
      · split at hs
        · rename_i h1
          exact codeLen_well h h1 hs
        · split at hs
          · rename_i h1
            exact nextLen_well h h1 hs
          · exact repeat_well h (by omega) hs
/-- How far the machine is from its end. -/
def lmu (c : LC) : Nat :=
  if c.st = 0 then 4000 else if c.st = 1 then 3000 else if c.st = 2 then 2000 else if c.st = 3 then 1000 + (19 - c.f 24).toNat else if c.st = 4 then 2 * (400 - c.lens.length) + 1 else if c.st = 5 then 2 * (400 - c.lens.length) else 0
theorem lmu_le (c : LC) (h : LWell c) : (c.st = 3 → 1000 < lmu c ∧ lmu c < 2000) ∧ (4 ≤ c.st → lmu c ≤ 801) := by
  unfold lmu
  refine ⟨fun h3 => ?_, fun h4 => ?_⟩
  · have := h.cod h3
    rw [if_neg (by omega), if_neg (by omega), if_neg (by omega), if_pos h3]
    omega
  · rw [if_neg (by omega), if_neg (by omega), if_neg (by omega), if_neg (by omega)]
    split
    · omega
    · split <;> omega
theorem add_less {c c' : LC} {v : Int} {t : Nat} (h : LWell c) (h4 : 4 ≤ c.st) (h5 : c.st ≤ 5) (ht : 1 ≤ t) (ht2 : c.st = 5 → 2 ≤ t) (hs : addS c v t = .inl c') : lmu c' < lmu c := by
  have a1 := h.lit (by omega)
  have a2 := h.dist (by omega)
  have a3 := h.len h4 h5
  have hc : lmu c = if c.st = 4 then 2 * (400 - c.lens.length) + 1 else 2 * (400 - c.lens.length) := by
    unfold lmu
    rw [if_neg (by omega), if_neg (by omega), if_neg (by omega), if_neg (by omega)]
    split
    · rfl
    · rw [if_pos (by omega)]
  unfold addS at hs
  split at hs
  · cases hs
  · split at hs
    · injection hs with hs
      subst hs
      rw [hc]
      have : lmu { c with st := 4, lens := c.lens ++ List.replicate t v } = 2 * (400 - (c.lens.length + t)) + 1 := by simp [lmu]
      rw [this]
      split <;> omega
    · split at hs
      · injection hs with hs
        subst hs
        rw [hc]
        have : lmu { c with st := 6, lens := c.lens ++ List.replicate t v } = 0 := by simp [lmu]
        rw [this]
        split <;> omega
      · cases hs
end Go.Proofs.YtlffdadmgginmaeDoor
namespace Go.Proofs.YtlffdadmgginmaeDoor
open Go.RowKit
attribute [local go_sem ↓] Go.wp_at_zero Go.wp_at_succ
set_option linter.unusedVariables false

theorem lmu_at (c : LC) (s : Nat) (hs : c.st = s) : lmu c = if s = 0 then 4000 else if s = 1 then 3000 else if s = 2 then 2000 else if s = 3 then 1000 + (19 - c.f 24).toNat else if s = 4 then 2 * (400 - c.lens.length) + 1 else if s = 5 then 2 * (400 - c.lens.length) else 0 := by
  subst hs
  rfl
theorem lstep0_less {zs : List Int} {c c' : LC} (h : LWell c) (h5 : c.st ≤ 5) (hs : lstep0 zs c = .inl c') : lmu c' < lmu c := by
  have hw := lstep0_well h h5 hs
  unfold lstep0 at hs
  split at hs
  · rename_i h0
    rw [lmu_at c 0 h0]
    unfold litCountS at hs
    split at hs
    · split at hs
      · cases hs
      · injection hs with hs
        rw [lmu_at c' 1 (by rw [← hs])]
        show 3000 < 4000
        omega
    · cases hs
  · split at hs
    · rename_i h1
      rw [lmu_at c 1 h1]
      unfold distCountS at hs
      split at hs
      · split at hs
        · cases hs
        · injection hs with hs
          rw [lmu_at c' 2 (by rw [← hs])]
          show 2000 < 3000
          omega
      · cases hs
    · split at hs
      · rename_i h2
        rw [lmu_at c 2 h2]
        unfold codeCountS at hs
        split at hs
        · injection hs with hs
          have := (lmu_le c' hw).1 (by rw [← hs])
          show lmu c' < 2000
          omega
        · cases hs
      · split at hs
        · rename_i h3
          have hc := h.cod h3
          rw [lmu_at c 3 h3]
          show lmu c' < 1000 + (19 - c.f 24).toNat
          unfold codeLenS at hs
          split at hs
          · split at hs
            · injection hs with hs
              rw [lmu_at c' 3 (by rw [← hs])]
              have e : c'.f 24 = c.f 24 + 1 := by rw [← hs]; exact cl1_24 _ (field (bnum zs) c.i 3)
              rw [e]
              show 1000 + (19 - (c.f 24 + 1)).toNat < _
              omega
            · split at hs
              · injection hs with hs
                have := (lmu_le c' hw).2 (by rw [← hs]; exact Nat.le_refl 4)
                omega
              · cases hs
          · cases hs
        · split at hs
          · rename_i h4
            have a1 := h.lit (by omega)
            have a2 := h.dist (by omega)
            have a3 := h.len (by omega) (by omega)
            unfold nextLenS at hs
            split at hs
            · split at hs
              · have hl := add_less (h.ati (c.i + _)) (by show 4 ≤ c.st; omega) (by show c.st ≤ 5; omega) (Nat.le_refl 1) (fun h => by have : c.st = 5 := h; omega) hs
                exact hl
              · split at hs
                · cases hs
                · injection hs with hs
                  rw [lmu_at c 4 h4, lmu_at c' 5 (by rw [← hs])]
                  have e : c'.lens = c.lens := by rw [← hs]
                  rw [e]
                  show 2 * (400 - c.lens.length) < 2 * (400 - c.lens.length) + 1
                  omega
            · split at hs
              · cases hs
              · cases hs
          · have h5' : c.st = 5 := by omega
            unfold repeatS at hs
            split at hs
            · have ht : 3 ≤ repT c := by unfold repT; split <;> omega
              have hl := add_less (h.ati (c.i + repX c)) (by show 4 ≤ c.st; omega) (by show c.st ≤ 5; omega) (by omega) (fun _ => by omega) hs
              exact hl
            · cases hs
end Go.Proofs.YtlffdadmgginmaeDoor
namespace Go.Proofs.YtlffdadmgginmaeDoor
open Go.RowKit
attribute [local go_sem ↓] Go.wp_at_zero Go.wp_at_succ
set_option linter.unusedVariables false

/-- Every state answers as its step says. -/
theorem lstate_any (q p hB : Nat) (zs : List Int) (rdy : Value) (c : LC) (w : World) (hM : LMem q p hB zs rdy w c) (hW : LWell c) (h5 : c.st ≤ 5) (hz : Octets zs) (hzl : zs.length ≤ 65536) :
    Calls Tryd.prog (lfn c.st) #[.pointer (some ⟨q, 0, none⟩)] w fun e w' => LPost q p hB zs rdy (lstep0 zs c) e w w' := by
  have hc : c.st = 0 ∨ c.st = 1 ∨ c.st = 2 ∨ c.st = 3 ∨ c.st = 4 ∨ c.st = 5 := by omega
  rcases hc with h | h | h | h | h | h
  · have e : lstep0 zs c = litCountS zs c := by unfold lstep0; rw [if_pos h]
    rw [e, h]
    exact litCount_any q p hB zs rdy c w hM h hz hzl
  · have e : lstep0 zs c = distCountS zs c := by unfold lstep0; rw [if_neg (by omega), if_pos h]
    rw [e, h]
    exact distCount_any q p hB zs rdy c w hM h hz hzl
  · have e : lstep0 zs c = codeCountS zs c := by unfold lstep0; rw [if_neg (by omega), if_neg (by omega), if_pos h]
    rw [e, h]
    exact codeCount_any q p hB zs rdy c w hM h hz hzl
  · have e : lstep0 zs c = codeLenS zs c := by unfold lstep0; rw [if_neg (by omega), if_neg (by omega), if_neg (by omega), if_pos h]
    have hk := hW.cod h
    rw [e, h]
    exact codeLen_any q p hB zs rdy c (c.f 24).toNat w hM h (by omega) (by omega) hz hzl _ rfl
  · have e : lstep0 zs c = nextLenS zs c (Nat.min (8 * zs.length - c.i) 15) := by unfold lstep0; rw [if_neg (by omega), if_neg (by omega), if_neg (by omega), if_neg (by omega), if_pos h]
    rw [e, h]
    exact nextLen_any q p hB zs rdy c _ w hM (hW.inv (by omega) (by omega)) (add_ok q p hB zs rdy) hz hzl rfl _ rfl
  · have e : lstep0 zs c = repeatS zs c := by unfold lstep0; rw [if_neg (by omega), if_neg (by omega), if_neg (by omega), if_neg (by omega), if_neg (by omega)]
    have hI := hW.inv (by omega) (by omega)
    rcases hW.rep h with ⟨h16, h0⟩ | h17 | h18
    · rw [e, h]
      exact repeat_16 q p hB zs rdy c w hM hI (add_ok q p hB zs rdy) hz hzl h16 h0 _ rfl
    · rw [e, h]
      exact repeat_17 q p hB zs rdy c w hM hI (add_ok q p hB zs rdy) hz hzl h17 _ rfl
    · rw [e, h]
      exact repeat_18 q p hB zs rdy c w hM hI (add_ok q p hB zs rdy) hz hzl h18 _ rfl
theorem Trod.toBelow {q p hB B : Nat} {zs : List Int} {rdy : Value} {w w' : World} {c : LC} (h : Trod q p w w') (hM : LMem q p hB zs rdy w c) (hq : B ≤ q) (hp : B ≤ p) : Below B w w' := by
  obtain ⟨B', v, b1, b2, b3, b4, b5, b6, _⟩ := hM.own
  refine ⟨h.os, h.tape, h.output, h.size, fun k hk => h.block k (by have := hM.lt; omega) (by omega) (by omega) ?_⟩
  intro u hu e
  rw [b5] at hu
  cases hu
  have := own_base b6 k e
  omega
end Go.Proofs.YtlffdadmgginmaeDoor
namespace Go.Proofs.YtlffdadmgginmaeDoor
open Go.RowKit
attribute [local go_sem ↓] Go.wp_at_zero Go.wp_at_succ
set_option linter.unusedVariables false

abbrev LW := { c : LC // LWell c }
/-- A step, where the numbers are well. -/
def lstep (zs : List Int) (c : LW) : LW ⊕ (Int × LW) :=
  if h5 : c.1.st ≤ 5 then
    match hs : lstep0 zs c.1 with
    | .inl c' => .inl ⟨c', lstep0_well c.2 h5 hs⟩
    | .inr (k, cf) => .inr (k, ⟨{ cf with st := 0 }, LWell.none _ rfl⟩)
  else .inr (0, c)
def lnowO (q : Nat) (c : LW) : Option (Nat × Array Value) := if c.1.st ≤ 5 then some (lfn c.1.st, #[.pointer (some ⟨q, 0, none⟩)]) else none
theorem lnowO_v (q : Nat) (c : LW) : nowV (lnowO q) c = lnow q .nilFunc c.1.st := by
  unfold nowV lnowO lnow
  by_cases h : c.1.st ≤ 5
  · rw [if_pos h, if_pos h]
  · rw [if_neg h, if_neg h]
theorem lstep_inl {zs : List Int} {c c' : LW} (h5 : c.1.st ≤ 5) (h : lstep zs c = .inl c') : lstep0 zs c.1 = .inl c'.1 := by
  unfold lstep at h
  rw [dif_pos h5] at h
  split at h
  · rename_i c2 hs
    injection h with h
    rw [← h]
    exact hs
  · cases h
theorem lstep_inr {zs : List Int} {c cf : LW} {k : Int} (h5 : c.1.st ≤ 5) (h : lstep zs c = .inr (k, cf)) : ∃ c2, lstep0 zs c.1 = .inr (k, c2) ∧ cf.1 = { c2 with st := 0 } := by
  unfold lstep at h
  rw [dif_pos h5] at h
  split at h
  · cases h
  · rename_i k2 c2 hs
    injection h with h
    injection h with h1 h2
    subst h1
    exact ⟨c2, hs, by rw [← h2]⟩
theorem go_litCount (args : Array Value) (W : World) : Sem.run Tryd.prog (callFunc 24 args) W = .ok (.enter 24 args) W := by kernel_rfl
theorem go_distCount (args : Array Value) (W : World) : Sem.run Tryd.prog (callFunc 52 args) W = .ok (.enter 52 args) W := by kernel_rfl
theorem go_codeCount (args : Array Value) (W : World) : Sem.run Tryd.prog (callFunc 78 args) W = .ok (.enter 78 args) W := by kernel_rfl
theorem go_codeLen (args : Array Value) (W : World) : Sem.run Tryd.prog (callFunc 97 args) W = .ok (.enter 97 args) W := by kernel_rfl
theorem go_nextLen (args : Array Value) (W : World) : Sem.run Tryd.prog (callFunc 126 args) W = .ok (.enter 126 args) W := by kernel_rfl
theorem go_repeat (args : Array Value) (W : World) : Sem.run Tryd.prog (callFunc 141 args) W = .ok (.enter 141 args) W := by kernel_rfl
theorem lfn_go (s : Nat) (hs : s ≤ 5) (args : Array Value) (W : World) : Sem.run Tryd.prog (callFunc (lfn s) args) W = .ok (.enter (lfn s) args) W := by
  have h3 : s = 0 ∨ s = 1 ∨ s = 2 ∨ s = 3 ∨ s = 4 ∨ s = 5 := by omega
  rcases h3 with rfl | rfl | rfl | rfl | rfl | rfl
  · exact go_litCount args W
  · exact go_distCount args W
  · exact go_codeCount args W
  · exact go_codeLen args W
  · exact go_nextLen args W
  · exact go_repeat args W
/-- The machine for lengths, run from any state. -/
theorem lens_run (q p hB B : Nat) (zs : List Int) (hz : Octets zs) (hzl : zs.length ≤ 65536) (hBq : B ≤ q) (hBp : B ≤ p) (c0 : LW) (w : World) (hM : LMem q p hB zs .nilFunc w c0.1) (hn : w.cell? ⟨q, 1, none⟩ = some (lnow q .nilFunc c0.1.st)) :
    Calls Tryd.prog 25 #[.pointer (some ⟨q, 0, none⟩)] w fun e w' => RunPost (lnowO q) (lstep zs) (fun W (c : LW) => LMem q p hB zs .nilFunc W c.1) B c0 w e w' := by
  have hst : ∀ (c : LW) f caps, lnowO q c = some (f, caps) → c.1.st ≤ 5 ∧ f = lfn c.1.st ∧ caps = #[.pointer (some ⟨q, 0, none⟩)] := by
    intro c f caps h
    unfold lnowO at h
    split at h
    · rename_i h5
      injection h with h
      injection h with h1 h2
      exact ⟨h5, h1.symm, h2.symm⟩
    · cases h
  have hst2 : ∀ (c : LW), lnowO q c ≠ none → c.1.st ≤ 5 := by
    intro c h
    unfold lnowO at h
    split at h
    · assumption
    · exact absurd rfl h
  refine run_any q B (lnowO q) (fun W (c : LW) => LMem q p hB zs .nilFunc W c.1) (lstep zs) (fun c => lmu c.1) hBq ?_ ?_ ?_ ?_ ?_ ?_ c0 w hM (by rw [lnowO_v]; exact hn)
  · intro c f caps h args W
    obtain ⟨h5, rfl, _⟩ := hst c f caps h
    exact lfn_go _ h5 args W
  · intro W c h
    exact ⟨h.c1, h.free 1, h.g0⟩
  · intro W c v h
    exact h.next v
  · intro W W' c h hb
    exact h.below hb
  · intro W c f caps h hMc
    obtain ⟨h5, rfl, rfl⟩ := hst c f caps h
    refine Calls.mono (lstate_any q p hB zs .nilFunc c.1 W hMc c.2 h5 hz hzl) ?_
    rintro e W' ⟨hy, hno⟩
    refine ⟨fun c' hs => ?_, fun k cf hs => ?_⟩
    · obtain ⟨h1, h2, h3⟩ := hy c'.1 (lstep_inl h5 hs)
      exact ⟨by rw [lnowO_v]; exact h1, h2, h3.toBelow hMc hBq hBp⟩
    · obtain ⟨c2, h1, h2⟩ := lstep_inr h5 hs
      obtain ⟨v, h3, h4, h6⟩ := hno k c2 h1
      refine ⟨v, h3, ?_, h6.toBelow hMc hBq hBp⟩
      show LMem q p hB zs .nilFunc W' cf.1
      rw [h2]
      exact h4.at 0 (fun h => by omega) (fun h => by omega)
  · intro c c' h hs
    exact lstep0_less c.2 (hst2 c h) (lstep_inl (hst2 c h) hs)
end Go.Proofs.YtlffdadmgginmaeDoor
namespace Go.Proofs.YtlffdadmgginmaeDoor
open Go.RowKit
set_option linter.unusedVariables false

/-- How the machine for lengths ends. -/
def LEndsN (zs : List Int) : Nat → LC → Int → LC → Prop
  | 0, _, _, _ => False
  | n + 1, c, k, cf => (¬ c.st ≤ 5 ∧ k = 1 ∧ cf = c) ∨ (c.st ≤ 5 ∧ lstep0 zs c = .inr (k, cf)) ∨ (c.st ≤ 5 ∧ ∃ c', lstep0 zs c = .inl c' ∧ LEndsN zs n c' k cf)
def LEnds (zs : List Int) (c : LC) (k : Int) (cf : LC) : Prop := ∃ n, LEndsN zs n c k cf
theorem LEnds.fin {zs : List Int} {c : LC} (h : ¬ c.st ≤ 5) : LEnds zs c 1 c := ⟨1, .inl ⟨h, rfl, rfl⟩⟩
theorem LEnds.bad {zs : List Int} {c cf : LC} {k : Int} (h : c.st ≤ 5) (hs : lstep0 zs c = .inr (k, cf)) : LEnds zs c k cf := ⟨1, .inr (.inl ⟨h, hs⟩)⟩
theorem LEnds.more {zs : List Int} {c c' cf : LC} {k : Int} (h : c.st ≤ 5) (hs : lstep0 zs c = .inl c') (h2 : LEnds zs c' k cf) : LEnds zs c k cf := by
  obtain ⟨n, hn⟩ := h2
  exact ⟨n + 1, .inr (.inr ⟨h, c', hs, hn⟩)⟩
theorem LEnds.cut {zs : List Int} {c cf : LC} {k : Int} (h : LEnds zs c k cf) : (¬ c.st ≤ 5 ∧ k = 1 ∧ cf = c) ∨ (c.st ≤ 5 ∧ lstep0 zs c = .inr (k, cf)) ∨ (c.st ≤ 5 ∧ ∃ c', lstep0 zs c = .inl c' ∧ LEnds zs c' k cf) := by
  obtain ⟨n, hn⟩ := h
  cases n with
  | zero => exact hn.elim
  | succ n =>
    rcases hn with h | h | ⟨h1, c', h2, h3⟩
    · exact .inl h
    · exact .inr (.inl h)
    · exact .inr (.inr ⟨h1, c', h2, n, h3⟩)
theorem LEnds.det {zs : List Int} {c cf cf' : LC} {k k' : Int} (h : LEnds zs c k cf) (h' : LEnds zs c k' cf') : k = k' ∧ cf = cf' := by
  obtain ⟨n, hn⟩ := h
  induction n generalizing c with
  | zero => exact hn.elim
  | succ n ih =>
    rcases hn with ⟨h1, rfl, rfl⟩ | ⟨h1, hs⟩ | ⟨h1, c', hs, h3⟩
    · rcases h'.cut with ⟨_, rfl, rfl⟩ | ⟨h2, _⟩ | ⟨h2, _⟩
      · exact ⟨rfl, rfl⟩
      · exact absurd h2 h1
      · exact absurd h2 h1
    · rcases h'.cut with ⟨h2, _⟩ | ⟨_, hs'⟩ | ⟨_, c', hs', _⟩
      · exact absurd h1 h2
      · rw [hs] at hs'; injection hs' with e; injection e with e1 e2; exact ⟨e1, e2⟩
      · rw [hs] at hs'; cases hs'
    · rcases h'.cut with ⟨h2, _⟩ | ⟨_, hs'⟩ | ⟨_, c2, hs', h4⟩
      · exact absurd h1 h2
      · rw [hs] at hs'; cases hs'
      · rw [hs] at hs'; injection hs' with e; subst e; exact ih h4 h3
theorem LEnds.ex {zs : List Int} : ∀ (n : Nat) (c : LC), LWell c → lmu c < n → ∃ k cf, LEnds zs c k cf := by
  intro n
  induction n with
  | zero => intro c _ h; omega
  | succ n ih =>
    intro c hw hn
    by_cases h5 : c.st ≤ 5
    · cases hs : lstep0 zs c with
      | inl c' =>
        obtain ⟨k, cf, h⟩ := ih c' (lstep0_well hw h5 hs) (by have := lstep0_less hw h5 hs; omega)
        exact ⟨k, cf, .more h5 hs h⟩
      | inr x => exact ⟨x.1, x.2, .bad h5 hs⟩
    · exact ⟨1, c, .fin h5⟩
theorem LEnds.of_ends {q : Nat} {zs : List Int} {c cf : LW} {k : Int} (h : Ends (lnowO q) (lstep zs) c k cf) : ∃ c2, LEnds zs c.1 k c2 ∧ ((∃ s, cf.1 = { c2 with st := s }) ∧ (cf.1.st = 6 → cf.1 = c2)) := by
  refine Ends.ind (X := fun c k cf => ∃ c2, LEnds zs c.1 k c2 ∧ ((∃ s, cf.1 = { c2 with st := s }) ∧ (cf.1.st = 6 → cf.1 = c2))) ?_ ?_ ?_ h
  · intro c h1
    refine ⟨c.1, .fin ?_, ⟨c.1.st, rfl⟩, fun _ => rfl⟩
    intro h5
    unfold lnowO at h1
    rw [if_pos h5] at h1
    cases h1
  · intro c cf k h1 hs
    have h5 : c.1.st ≤ 5 := by
      rcases Nat.lt_or_ge 5 c.1.st with h | h
      · exfalso; apply h1; unfold lnowO; rw [if_neg (by omega)]
      · exact h
    obtain ⟨c2, e1, e2⟩ := lstep_inr h5 hs
    exact ⟨c2, .bad h5 e1, ⟨0, e2⟩, fun h => by rw [e2] at h; cases h⟩
  · intro c c' cf k h1 hs ih
    have h5 : c.1.st ≤ 5 := by
      rcases Nat.lt_or_ge 5 c.1.st with h | h
      · exfalso; apply h1; unfold lnowO; rw [if_neg (by omega)]
      · exact h
    obtain ⟨c2, e1, e2⟩ := ih
    exact ⟨c2, .more h5 (lstep_inl h5 hs) e1, e2⟩
theorem addS_no {c cf : LC} {v k : Int} {t : Nat} (hs : addS c v t = .inr (k, cf)) : k = 2 ∨ k = 3 := by
  unfold addS at hs
  repeat' (split at hs)
  all_goals first | (cases hs; done) | (injection hs with e; injection e with e1 e2; omega)
theorem lstep0_no {zs : List Int} {c cf : LC} {k : Int} (hs : lstep0 zs c = .inr (k, cf)) : k = 2 ∨ k = 3 := by
  unfold lstep0 at hs
  split at hs
  · unfold litCountS at hs
    repeat' (split at hs)
    all_goals first | (cases hs; done) | (injection hs with e; injection e with e1 e2; omega)
  · split at hs
    · unfold distCountS at hs
      repeat' (split at hs)
      all_goals first | (cases hs; done) | (injection hs with e; injection e with e1 e2; omega)
    · split at hs
      · unfold codeCountS at hs
        repeat' (split at hs)
        all_goals first | (cases hs; done) | (injection hs with e; injection e with e1 e2; omega)
      · split at hs
        · unfold codeLenS at hs
          repeat' (split at hs)
          all_goals first | (cases hs; done) | (injection hs with e; injection e with e1 e2; omega)
        · split at hs
          · unfold nextLenS at hs
            repeat' (split at hs)
            all_goals first | exact addS_no hs | (cases hs; done) | (injection hs with e; injection e with e1 e2; omega)
          · unfold repeatS at hs
            repeat' (split at hs)
            all_goals first | exact addS_no hs | (cases hs; done) | (injection hs with e; injection e with e1 e2; omega)
/-- A machine that has ended well has read all its lengths. -/
theorem LEnds.good {zs : List Int} {c cf : LC} {k : Int} (h : LEnds zs c k cf) : LWell c → (k = 1 ∧ LWell cf ∧ cf.st = 6) ∨ k ≠ 1 := by
  obtain ⟨n, hn⟩ := h
  induction n generalizing c with
  | zero => exact hn.elim
  | succ n ih =>
    intro hw
    rcases hn with ⟨h1, rfl, rfl⟩ | ⟨h1, hs⟩ | ⟨h1, c', hs, h3⟩
    · have := hw.s6
      exact .inl ⟨rfl, hw, by omega⟩
    · right
      intro hk
      rcases lstep0_no hs with h | h <;> omega
    · exact ih h3 (lstep0_well hw h1 hs)

/-! ### THE MODEL's READING, AS PLAIN FUNCTIONS -/
/-- A place in bits, and a number. -/
abbrev RR := Nat × Int
def tk (zs : List Int) (r : RR) (n : Nat) : RR × Nat := if r.2 = 0 then (if r.1 + n ≤ 8 * zs.length then ((r.1 + n, 0), field (bnum zs) r.1 n) else ((r.1, 2), 0)) else (r, 0)
def bdP (r : RR) (p : Bool) : RR := if r.2 = 0 ∧ p = true then (r.1, 3) else r
/-- How many bits are looked at for a symbol. -/
def lkn (zs : List Int) (i : Nat) : Nat := Nat.min (8 * zs.length - i) 15
def sy (zs : List Int) (r : RR) (tb : List Int) : RR × Nat :=
  if r.2 = 0 then ((r.1 + (nx3 tb (field (bnum zs) r.1 (lkn zs r.1)) (lkn zs r.1)).2.2, if (nx3 tb (field (bnum zs) r.1 (lkn zs r.1)) (lkn zs r.1)).1 = 2 then 2 else if (nx3 tb (field (bnum zs) r.1 (lkn zs r.1)) (lkn zs r.1)).1 = 0 then 3 else 0), (nx3 tb (field (bnum zs) r.1 (lkn zs r.1)) (lkn zs r.1)).2.1)
  else (r, 0)
def ups (r : RR) (all : List Int) (v : Int) (t : Nat) : List Int := if r.2 = 0 then all ++ List.replicate t v else all
def rpt (zs : List Int) (r : RR) (all : List Int) (x : Nat) : RR × List Int :=
  if x = 16 then ((tk zs (bdP r (decide (all.length = 0))) 2).1, ups (tk zs (bdP r (decide (all.length = 0))) 2).1 all (all.getD (all.length - 1) 0) ((tk zs (bdP r (decide (all.length = 0))) 2).2 + 3))
  else if x = 17 then ((tk zs r 3).1, ups (tk zs r 3).1 all 0 ((tk zs r 3).2 + 3))
  else if x = 18 then ((tk zs r 7).1, ups (tk zs r 7).1 all 0 ((tk zs r 7).2 + 11))
  else (r, ups r all (x : Nat) 1)
/-- A round of the model's loop over lengths. -/
def rnd (zs tb : List Int) (N : Nat) (r : RR) (all : List Int) : RR × List Int :=
  if (sy zs r tb).1.2 = 0 then (bdP (rpt zs (sy zs r tb).1 all (sy zs r tb).2).1 (decide (N < (rpt zs (sy zs r tb).1 all (sy zs r tb).2).2.length)), (rpt zs (sy zs r tb).1 all (sy zs r tb).2).2)
  else ((sy zs r tb).1, all)
/-- Where the reading stands against the machine that ends with k at cf. -/
structure At (zs : List Int) (k : Int) (cf : LC) (s : Nat) (r : RR) (P : LC → Prop) : Prop where
  no : r.2 ≠ 0 → r.2 = k ∧ k ≠ 1
  yes : r.2 = 0 → ∃ c, c.st = s ∧ c.i = r.1 ∧ LWell c ∧ LEnds zs c k cf ∧ P c
theorem tk_no {zs : List Int} {r : RR} {n : Nat} (h : r.2 ≠ 0) : tk zs r n = (r, 0) := by unfold tk; rw [if_neg h]
theorem bdP_no {r : RR} {p : Bool} (h : r.2 ≠ 0) : bdP r p = r := by unfold bdP; rw [if_neg (fun x => h x.1)]
theorem LEnds.step {zs : List Int} {c cf : LC} {k : Int} (h : LEnds zs c k cf) (h5 : c.st ≤ 5) : (∃ c', lstep0 zs c = .inl c' ∧ LEnds zs c' k cf) ∨ lstep0 zs c = .inr (k, cf) := by
  rcases h.cut with ⟨h1, _⟩ | ⟨_, hs⟩ | ⟨_, c', hs, h2⟩
  · exact absurd h5 h1
  · exact .inr hs
  · exact .inl ⟨c', hs, h2⟩
theorem lstep0_at (zs : List Int) (c : LC) (s : Nat) (hs : c.st = s) : lstep0 zs c = if s = 0 then litCountS zs c else if s = 1 then distCountS zs c else if s = 2 then codeCountS zs c else if s = 3 then codeLenS zs c else if s = 4 then nextLenS zs c (Nat.min (8 * zs.length - c.i) 15) else repeatS zs c := by
  subst hs; rfl
/-- The numbers of the lengths of the code of lengths are none yet. -/
def cl0 (c : LC) : Prop := ∀ j, 5 ≤ j → j ≤ 23 → c.f j = 0
theorem at_lit {zs : List Int} {k : Int} {cf : LC} {r : RR} {P : LC → Prop} (h : At zs k cf 0 r P) :
    At zs k cf 1 (bdP (tk zs r 5).1 (decide (286 < ((tk zs r 5).2 : Int) + 257))) (fun c => c.f 2 = ((tk zs r 5).2 : Int) + 257 ∧ cl0 c) := by
  by_cases h0 : r.2 = 0
  · obtain ⟨c, h1, h2, h3, h4, _⟩ := h.yes h0
    have hst := h4.step (by omega)
    rw [lstep0_at zs c 0 h1, if_pos rfl] at hst
    unfold litCountS at hst
    rw [h2] at hst
    unfold tk
    rw [if_pos h0]
    by_cases hb : r.1 + 5 ≤ 8 * zs.length
    · rw [if_pos hb] at hst ⊢
      by_cases hg : ((field (bnum zs) r.1 5 : Nat) : Int) + 257 > 286
      · rw [if_pos hg] at hst
        rcases hst with ⟨c', e, _⟩ | e
        · cases e
        · injection e with e; injection e with e1 e2
          refine ⟨fun _ => ?_, fun h => ?_⟩
          · unfold bdP
            rw [if_pos ⟨rfl, decide_eq_true hg⟩]
            exact ⟨e1, by omega⟩
          · unfold bdP at h
            rw [if_pos ⟨rfl, decide_eq_true hg⟩] at h
            cases h
      · rw [if_neg hg] at hst
        have eb : bdP (r.1 + 5, 0) (decide (286 < ((field (bnum zs) r.1 5 : Nat) : Int) + 257)) = (r.1 + 5, 0) := by
          unfold bdP
          rw [if_neg (fun x => hg (of_decide_eq_true x.2))]
        dsimp only
        rw [eb]
        rcases hst with ⟨c', e, h5⟩ | e
        · injection e with e
          subst e
          refine ⟨fun h => absurd rfl h, fun _ => ⟨_, rfl, rfl, ?_, h5, ?_, ?_⟩⟩
          · refine lit_well (zs := zs) h3 ?_
            unfold litCountS
            rw [h2, if_pos hb, if_neg hg]
          · simp [upd, clr]
          · intro j j1 j2
            simp only [upd, clr]
            rw [if_neg (by omega), if_pos ⟨j1, j2⟩]
        · cases e
    · rw [if_neg hb] at hst ⊢
      rcases hst with ⟨c', e, _⟩ | e
      · cases e
      · injection e with e; injection e with e1 e2
        have eb : ∀ p, bdP (r.1, 2) p = (r.1, 2) := fun p => bdP_no (show (2 : Int) ≠ 0 by decide)
        dsimp only
        rw [eb]
        exact ⟨fun _ => ⟨e1, by omega⟩, fun h => by cases h⟩
  · rw [tk_no h0, bdP_no h0]
    exact ⟨fun _ => h.no h0, fun h => absurd h h0⟩
theorem at_dist {zs : List Int} {k : Int} {cf : LC} {r : RR} {L : Int} (h : At zs k cf 1 r (fun c => c.f 2 = L ∧ cl0 c)) :
    At zs k cf 2 (bdP (tk zs r 5).1 (decide (30 < ((tk zs r 5).2 : Int) + 1))) (fun c => c.f 2 = L ∧ c.f 3 = ((tk zs r 5).2 : Int) + 1 ∧ cl0 c) := by
  by_cases h0 : r.2 = 0
  · obtain ⟨c, h1, h2, h3, h4, h6, h7⟩ := h.yes h0
    have hst := h4.step (by omega)
    rw [lstep0_at zs c 1 h1, if_neg (by decide), if_pos rfl] at hst
    unfold distCountS at hst
    rw [h2] at hst
    unfold tk
    rw [if_pos h0]
    by_cases hb : r.1 + 5 ≤ 8 * zs.length
    · rw [if_pos hb] at hst ⊢
      by_cases hg : ((field (bnum zs) r.1 5 : Nat) : Int) + 1 > 30
      · rw [if_pos hg] at hst
        rcases hst with ⟨c', e, _⟩ | e
        · cases e
        · injection e with e; injection e with e1 e2
          refine ⟨fun _ => ?_, fun h => ?_⟩
          · unfold bdP
            rw [if_pos ⟨rfl, decide_eq_true hg⟩]
            exact ⟨e1, by omega⟩
          · unfold bdP at h
            rw [if_pos ⟨rfl, decide_eq_true hg⟩] at h
            cases h
      · rw [if_neg hg] at hst
        have eb : bdP (r.1 + 5, 0) (decide (30 < ((field (bnum zs) r.1 5 : Nat) : Int) + 1)) = (r.1 + 5, 0) := by
          unfold bdP
          rw [if_neg (fun x => hg (of_decide_eq_true x.2))]
        dsimp only
        rw [eb]
        rcases hst with ⟨c', e, h5⟩ | e
        · injection e with e
          subst e
          refine ⟨fun h => absurd rfl h, fun _ => ⟨_, rfl, rfl, ?_, h5, ?_, ?_, ?_⟩⟩
          · refine dist_well (zs := zs) h3 h1 ?_
            unfold distCountS
            rw [h2, if_pos hb, if_neg hg]
          · simpa [upd] using h6
          · simp [upd]
          · intro j j1 j2
            simp only [upd]
            rw [if_neg (by omega)]
            exact h7 j j1 j2
        · cases e
    · rw [if_neg hb] at hst ⊢
      rcases hst with ⟨c', e, _⟩ | e
      · cases e
      · injection e with e; injection e with e1 e2
        have eb : ∀ p, bdP (r.1, 2) p = (r.1, 2) := fun p => bdP_no (show (2 : Int) ≠ 0 by decide)
        dsimp only
        rw [eb]
        exact ⟨fun _ => ⟨e1, by omega⟩, fun h => by cases h⟩
  · rw [tk_no h0, bdP_no h0]
    exact ⟨fun _ => h.no h0, fun h => absurd h h0⟩
theorem cl19_zero {c : LC} (h : cl0 c) : cl19 c.f = List.replicate 19 0 := by
  refine List.ext_getElem (by simp [cl19]) ?_
  intro j h1 h2
  have h3 : j < 19 := by simpa [cl19] using h1
  simp only [cl19, List.getElem_map, List.getElem_range, List.getElem_replicate]
  exact h (5 + j) (by omega) (by omega)
theorem at_code {zs : List Int} {k : Int} {cf : LC} {r : RR} {L D : Int} (h : At zs k cf 2 r (fun c => c.f 2 = L ∧ c.f 3 = D ∧ cl0 c)) :
    At zs k cf 3 (tk zs r 4).1 (fun c => c.f 2 = L ∧ c.f 3 = D ∧ c.f 4 = ((tk zs r 4).2 : Int) + 4 ∧ c.f 24 = 0 ∧ cl19 c.f = List.replicate 19 0) := by
  by_cases h0 : r.2 = 0
  · obtain ⟨c, h1, h2, h3, h4, h6, h7, h8⟩ := h.yes h0
    have hst := h4.step (by omega)
    rw [lstep0_at zs c 2 h1, if_neg (by decide), if_neg (by decide), if_pos rfl] at hst
    unfold codeCountS at hst
    rw [h2] at hst
    unfold tk
    rw [if_pos h0]
    by_cases hb : r.1 + 4 ≤ 8 * zs.length
    · rw [if_pos hb] at hst ⊢
      rcases hst with ⟨c', e, h5⟩ | e
      · injection e with e
        subst e
        refine ⟨fun h => absurd rfl h, fun _ => ⟨_, rfl, rfl, ?_, h5, ?_, ?_, ?_, ?_, ?_⟩⟩
        · refine code_well (zs := zs) h3 h1 ?_
          unfold codeCountS
          rw [h2, if_pos hb]
        · simpa [upd] using h6
        · simpa [upd] using h7
        · simp [upd]
        · simpa [upd] using h3.zero (by omega) (by omega)
        · refine cl19_zero ?_
          intro j j1 j2
          simp only [upd]
          rw [if_neg (by omega)]
          exact h8 j j1 j2
      · cases e
    · rw [if_neg hb] at hst ⊢
      rcases hst with ⟨c', e, _⟩ | e
      · cases e
      · injection e with e; injection e with e1 e2
        exact ⟨fun _ => ⟨e1, by omega⟩, fun h => by cases h⟩
  · rw [tk_no h0]
    exact ⟨fun _ => h.no h0, fun h => absurd h h0⟩
end Go.Proofs.YtlffdadmgginmaeDoor
namespace Go.Proofs.YtlffdadmgginmaeDoor
open Go.RowKit
set_option linter.unusedVariables false

theorem cl19_set (f : Nat → Int) (F : Nat) (h : (f 24).toNat < 19) : cl19 (cl1 f F) = (cl19 f).set (ord19 (f 24).toNat) (F : Int) := by
  have ho := ord19_le _ h
  refine List.ext_getElem (by simp [cl19]) ?_
  intro j h1 h2
  simp [cl19] at h1
  rw [List.getElem_set]
  simp only [cl19, List.getElem_map, List.getElem_range, cl1, upd]
  rw [if_neg (by omega)]
  by_cases e : ord19 (f 24).toNat = j
  · rw [if_pos (by omega), if_pos e]
  · rw [if_neg (by omega), if_neg e]
theorem at_len {zs : List Int} {k : Int} {cf : LC} {r : RR} {L D : Int} {m j : Nat} {small : List Int} (h : At zs k cf 3 r (fun c => c.f 2 = L ∧ c.f 3 = D ∧ c.f 4 = (m : Int) ∧ c.f 24 = (j : Int) ∧ cl19 c.f = small)) (hj : j < m) (hm : m ≤ 19) :
    (j + 1 < m → At zs k cf 3 (tk zs r 3).1 (fun c => c.f 2 = L ∧ c.f 3 = D ∧ c.f 4 = (m : Int) ∧ c.f 24 = ((j + 1 : Nat) : Int) ∧ cl19 c.f = small.set (ord19 j) ((tk zs r 3).2 : Int))) ∧
    (j + 1 = m → At zs k cf 4 (bdP (tk zs r 3).1 (decide (hk (small.set (ord19 j) ((tk zs r 3).2 : Int)) ≠ 1))) (fun c => c.f 2 = L ∧ c.f 3 = D ∧ c.tb = small.set (ord19 j) ((tk zs r 3).2 : Int) ∧ c.lens = [])) := by
  by_cases h0 : r.2 = 0
  · obtain ⟨c, h1, h2, h3, h4, h6, h7, h8, h9, h10⟩ := h.yes h0
    have hst := h4.step (by omega)
    have hw := h3
    rw [lstep0_at zs c 3 h1, if_neg (by decide), if_neg (by decide), if_neg (by decide), if_pos rfl] at hst
    have hwell : ∀ c', codeLenS zs c = .inl c' → LWell c' := fun c' e => codeLen_well hw h1 e
    unfold codeLenS at hst hwell
    rw [h2, h8, h9] at hst hwell
    have h24 : (c.f 24).toNat = j := by omega
    have hcl := fun F => cl19_set c.f F (by omega)
    rw [h24, h10] at hcl
    simp only [hcl] at hst hwell
    have hf2 : ∀ F, cl1 c.f F 2 = L := fun F => by rw [cl1_far _ _ _ (by omega) (by omega)]; exact h6
    have hf3 : ∀ F, cl1 c.f F 3 = D := fun F => by rw [cl1_far _ _ _ (by omega) (by omega)]; exact h7
    have hf4 : ∀ F, cl1 c.f F 4 = (m : Int) := fun F => by rw [cl1_far _ _ _ (by omega) (by omega)]; exact h8
    have hf24 : ∀ F, cl1 c.f F 24 = ((j + 1 : Nat) : Int) := fun F => by rw [cl1_24, h9]; omega
    have hl0 := h3.len0 (by omega) (by omega)
    unfold tk
    rw [if_pos h0]
    by_cases hb : r.1 + 3 ≤ 8 * zs.length
    · rw [if_pos hb] at hst hwell ⊢
      dsimp only
      generalize field (bnum zs) r.1 3 = F at *
      refine ⟨fun hlt => ?_, fun heq => ?_⟩
      · rw [if_pos (by omega)] at hst hwell
        rcases hst with ⟨c', e, h5⟩ | e
        · have hw' := hwell c' e
          injection e with e
          subst e
          exact ⟨fun h => absurd rfl h, fun _ => ⟨_, rfl, rfl, hw', h5, hf2 F, hf3 F, hf4 F, hf24 F, hcl F⟩⟩
        · cases e
      · rw [if_neg (by omega)] at hst hwell
        by_cases hk1 : hk (small.set (ord19 j) (F : Int)) = 1
        · rw [if_pos hk1] at hst hwell
          have eb : bdP (r.1 + 3, 0) (decide (hk (small.set (ord19 j) (F : Int)) ≠ 1)) = (r.1 + 3, 0) := by
            unfold bdP
            rw [if_neg (fun x => (of_decide_eq_true x.2) hk1)]
          rw [eb]
          rcases hst with ⟨c', e, h5⟩ | e
          · have hw' := hwell c' e
            injection e with e
            subst e
            exact ⟨fun h => absurd rfl h, fun _ => ⟨_, rfl, rfl, hw', h5, hf2 F, hf3 F, rfl, hl0⟩⟩
          · cases e
        · rw [if_neg hk1] at hst
          have eb : bdP (r.1 + 3, 0) (decide (hk (small.set (ord19 j) (F : Int)) ≠ 1)) = (r.1 + 3, 3) := by
            unfold bdP
            rw [if_pos ⟨rfl, decide_eq_true hk1⟩]
          rw [eb]
          rcases hst with ⟨c', e, h5⟩ | e
          · cases e
          · injection e with e; injection e with e1 e2
            exact ⟨fun _ => ⟨e1, by omega⟩, fun h => by cases h⟩
    · rw [if_neg hb] at hst ⊢
      rcases hst with ⟨c', e, _⟩ | e
      · cases e
      · injection e with e; injection e with e1 e2
        have eb : ∀ p, bdP (r.1, 2) p = (r.1, 2) := fun p => bdP_no (show (2 : Int) ≠ 0 by decide)
        dsimp only
        rw [eb]
        exact ⟨fun _ => ⟨fun _ => ⟨e1, by omega⟩, fun h => by cases h⟩, fun _ => ⟨fun _ => ⟨e1, by omega⟩, fun h => by cases h⟩⟩
  · rw [tk_no h0]
    dsimp only
    rw [bdP_no h0]
    exact ⟨fun _ => ⟨fun _ => h.no h0, fun h => absurd h h0⟩, fun _ => ⟨fun _ => h.no h0, fun h => absurd h h0⟩⟩
/-- Where the model's loop over lengths stands. -/
structure In2 (zs : List Int) (k : Int) (cf : LC) (L D : Int) (tb : List Int) (r : RR) (all : List Int) : Prop where
  no : r.2 ≠ 0 → r.2 = k ∧ k ≠ 1
  le : r.2 = 0 → (all.length : Int) ≤ L + D
  lt : r.2 = 0 → (all.length : Int) < L + D → ∃ c, c.st = 4 ∧ c.i = r.1 ∧ LWell c ∧ LEnds zs c k cf ∧ c.f 2 = L ∧ c.f 3 = D ∧ c.tb = tb ∧ c.lens = all
  eq : r.2 = 0 → (all.length : Int) = L + D → (chk (all.take L.toNat) (all.drop L.toNat) → k = 1 ∧ cf.i = r.1 ∧ cf.lens = all ∧ cf.f 2 = L) ∧ (¬ chk (all.take L.toNat) (all.drop L.toNat) → k = 3)
theorem In2.bad {zs : List Int} {k : Int} {cf : LC} {L D : Int} {tb : List Int} {r : RR} {all : List Int} (h : r.2 ≠ 0) (hk : r.2 = k) (h1 : k ≠ 1) : In2 zs k cf L D tb r all :=
  ⟨fun _ => ⟨hk, h1⟩, fun e => absurd e h, fun e => absurd e h, fun e => absurd e h⟩
theorem In2.of_at {zs : List Int} {k : Int} {cf : LC} {L D : Int} {tb : List Int} {r : RR} (h : At zs k cf 4 r (fun c => c.f 2 = L ∧ c.f 3 = D ∧ c.tb = tb ∧ c.lens = [])) (hN : 0 < L + D) : In2 zs k cf L D tb r [] := by
  refine ⟨h.no, fun _ => by simp; omega, fun e _ => ?_, fun e he => ?_⟩
  · obtain ⟨c, h1, h2, h3, h4, h5, h6, h7, h8⟩ := h.yes e
    exact ⟨c, h1, h2, h3, h4, h5, h6, h7, h8⟩
  · simp at he; omega
theorem add_in2 {zs : List Int} {k : Int} {cf c1 : LC} {L D : Int} {tb all : List Int} {v : Int} {t : Nat} (hw : LWell c1) (h4 : 4 ≤ c1.st) (hst : (∃ c', addS c1 v t = .inl c' ∧ LEnds zs c' k cf) ∨ addS c1 v t = .inr (k, cf))
    (e2 : c1.f 2 = L) (e3 : c1.f 3 = D) (et : c1.tb = tb) (el : c1.lens = all) (hN0 : 0 ≤ L + D) : In2 zs k cf L D tb (bdP (c1.i, 0) (decide ((L + D).toNat < (all ++ List.replicate t v).length))) (all ++ List.replicate t v) := by
  have hwell : ∀ c', addS c1 v t = .inl c' → LWell c' := fun c' e => add_well hw h4 e
  unfold addS at hst hwell
  rw [e2, e3, el] at hst hwell
  have hl : (all ++ List.replicate t v).length = all.length + t := by simp
  by_cases g1 : (t : Int) > L + D - (all.length : Nat)
  · rw [if_pos g1] at hst
    have eb : bdP (c1.i, 0) (decide ((L + D).toNat < (all ++ List.replicate t v).length)) = (c1.i, 3) := by
      unfold bdP
      rw [if_pos ⟨rfl, decide_eq_true (by omega)⟩]
    rw [eb]
    rcases hst with ⟨c', e, _⟩ | e
    · cases e
    · injection e with e; injection e with e1 _
      exact In2.bad (by show (3 : Int) ≠ 0; decide) e1 (by omega)
  · rw [if_neg g1] at hst hwell
    have eb : bdP (c1.i, 0) (decide ((L + D).toNat < (all ++ List.replicate t v).length)) = (c1.i, 0) := by
      unfold bdP
      rw [if_neg (fun x => by have := of_decide_eq_true x.2; omega)]
    rw [eb]
    by_cases g2 : (t : Int) < L + D - (all.length : Nat)
    · rw [if_pos g2] at hst hwell
      rcases hst with ⟨c', e, h5⟩ | e
      · have hw' := hwell c' e
        injection e with e
        subst e
        exact ⟨fun h => absurd rfl h, fun _ => by omega, fun _ _ => ⟨{ c1 with st := 4, lens := all ++ List.replicate t v }, rfl, rfl, hw', h5, e2, e3, et, rfl⟩, fun _ h => by omega⟩
      · cases e
    · rw [if_neg g2] at hst hwell
      by_cases g3 : chk ((all ++ List.replicate t v).take L.toNat) ((all ++ List.replicate t v).drop L.toNat)
      · rw [if_pos g3] at hst
        rcases hst with ⟨c', e, h5⟩ | e
        · injection e with e
          subst e
          refine ⟨fun h => absurd rfl h, fun _ => by omega, fun _ h => by omega, fun _ _ => ⟨fun _ => ?_, fun h => absurd g3 h⟩⟩
          rcases h5.cut with ⟨_, rfl, rfl⟩ | ⟨h6, _⟩ | ⟨h6, _⟩
          · exact ⟨rfl, rfl, rfl, e2⟩
          · exact absurd h6 (by show ¬ (6 : Nat) ≤ 5; decide)
          · exact absurd h6 (by show ¬ (6 : Nat) ≤ 5; decide)
        · cases e
      · rw [if_neg g3] at hst
        rcases hst with ⟨c', e, h5⟩ | e
        · cases e
        · injection e with e; injection e with e1 _
          exact ⟨fun h => absurd rfl h, fun _ => by omega, fun _ h => by omega, fun _ _ => ⟨fun h => absurd h g3, fun _ => e1.symm⟩⟩
theorem rep_in2 {zs : List Int} {k : Int} {cf c : LC} {L D : Int} {tb all : List Int} (hw : LWell c) (h5 : c.st = 5) (he : LEnds zs c k cf) (e2 : c.f 2 = L) (e3 : c.f 3 = D) (et : c.tb = tb) (el : c.lens = all) (hN0 : 0 ≤ L + D) (x : Nat) (hx : c.f 27 = (x : Int)) (i : Nat) (hi : c.i = i) :
    In2 zs k cf L D tb (bdP (rpt zs (i, 0) all x).1 (decide ((L + D).toNat < (rpt zs (i, 0) all x).2.length))) (rpt zs (i, 0) all x).2 := by
  have hst := he.step (by omega)
  rw [lstep0_at zs c 5 h5, if_neg (by decide), if_neg (by decide), if_neg (by decide), if_neg (by decide), if_neg (by decide)] at hst
  unfold repeatS at hst
  subst hi
  have go : ∀ (n t0 : Nat) (v : Int), repX c = n → repT c = t0 → repV c = v → ∀ (r' : RR) (all' : List Int), r' = (tk zs (c.i, 0) n).1 → all' = ups (tk zs (c.i, 0) n).1 all v ((tk zs (c.i, 0) n).2 + t0) →
      In2 zs k cf L D tb (bdP r' (decide ((L + D).toNat < all'.length))) all' := by
    intro n t0 v en e0 ev r' all' er ea
    rw [en, e0, ev] at hst
    unfold tk at er ea
    rw [if_pos rfl] at er ea
    by_cases hb : c.i + n ≤ 8 * zs.length
    · rw [if_pos hb] at hst er ea
      dsimp only at er ea
      unfold ups at ea
      rw [if_pos rfl] at ea
      rw [er, ea, Nat.add_comm (field (bnum zs) c.i n) t0]
      exact add_in2 (c1 := { c with i := c.i + n }) (hw.ati _) (by show 4 ≤ c.st; omega) hst e2 e3 et el hN0
    · rw [if_neg hb] at hst er ea
      have e2 : bdP r' (decide ((L + D).toNat < all'.length)) = (c.i, 2) := by rw [er]; exact bdP_no (show (2 : Int) ≠ 0 by decide)
      rw [e2]
      rcases hst with ⟨c', e, _⟩ | e
      · cases e
      · injection e with e; injection e with e1 _
        exact In2.bad (by show (2 : Int) ≠ 0; decide) e1 (by omega)
  rcases hw.rep h5 with ⟨h16, h0⟩ | h17 | h18
  · have ex : x = 16 := by omega
    subst ex
    have hb : bdP (c.i, 0) (decide (all.length = 0)) = (c.i, 0) := by
      unfold bdP
      rw [if_neg (fun y => by have := of_decide_eq_true y.2; rw [el] at h0; omega)]
    refine go 2 3 (all.getD (all.length - 1) 0) ?_ ?_ ?_ _ _ ?_ ?_
    · unfold repX; rw [if_pos h16]
    · unfold repT; rw [if_neg (by omega)]
    · unfold repV; rw [if_pos h16, el]
    · unfold rpt; rw [if_pos rfl, hb]
    · unfold rpt; rw [if_pos rfl, hb]
  · have ex : x = 17 := by omega
    subst ex
    refine go 3 3 0 ?_ ?_ ?_ _ _ ?_ ?_
    · unfold repX; rw [if_neg (by omega), if_neg (by omega)]
    · unfold repT; rw [if_neg (by omega)]
    · unfold repV; rw [if_neg (by omega)]
    · unfold rpt; rw [if_neg (by decide), if_pos rfl]
    · unfold rpt; rw [if_neg (by decide), if_pos rfl]
  · have ex : x = 18 := by omega
    subst ex
    refine go 7 11 0 ?_ ?_ ?_ _ _ ?_ ?_
    · unfold repX; rw [if_neg (by omega), if_pos h18]
    · unfold repT; rw [if_pos h18]
    · unfold repV; rw [if_neg (by omega)]
    · unfold rpt; rw [if_neg (by decide), if_neg (by decide), if_pos rfl]
    · unfold rpt; rw [if_neg (by decide), if_neg (by decide), if_pos rfl]
theorem round_in2 {zs : List Int} {k : Int} {cf : LC} {L D : Int} {tb all : List Int} {r : RR} (h : In2 zs k cf L D tb r all) (h0 : r.2 = 0) (hlt : (all.length : Int) < L + D) : In2 zs k cf L D tb (rnd zs tb (L + D).toNat r all).1 (rnd zs tb (L + D).toNat r all).2 := by
  obtain ⟨c, h1, h2, h3, h4, e2, e3, et, el⟩ := h.lt h0 hlt
  obtain ⟨i, cl⟩ := r
  dsimp only at h0 h2
  subst h0 h2
  have hst := h4.step (by omega)
  rw [lstep0_at zs c 4 h1, if_neg (by decide), if_neg (by decide), if_neg (by decide), if_neg (by decide), if_pos rfl] at hst
  have hwell : ∀ c', nextLenS zs c (lkn zs c.i) = .inl c' → LWell c' := fun c' e => nextLen_well h3 h1 e
  have hlk : Nat.min (8 * zs.length - c.i) 15 = lkn zs c.i := rfl
  rw [hlk] at hst
  have hsy : sy zs (c.i, 0) tb = ((c.i + (nx3 c.tb (field (bnum zs) c.i (lkn zs c.i)) (lkn zs c.i)).2.2, if (nx3 c.tb (field (bnum zs) c.i (lkn zs c.i)) (lkn zs c.i)).1 = 2 then 2 else if (nx3 c.tb (field (bnum zs) c.i (lkn zs c.i)) (lkn zs c.i)).1 = 0 then 3 else 0), (nx3 c.tb (field (bnum zs) c.i (lkn zs c.i)) (lkn zs c.i)).2.1) := by
    unfold sy
    rw [if_pos rfl, et]
  have hkk := nx3_kinds c.tb (field (bnum zs) c.i (lkn zs c.i)) (lkn zs c.i)
  have hsm : (nx3 c.tb (field (bnum zs) c.i (lkn zs c.i)) (lkn zs c.i)).1 = 1 → (nx3 c.tb (field (bnum zs) c.i (lkn zs c.i)) (lkn zs c.i)).2.1 < 19 := fun e => by
    have := (nx3_sym e).1
    rw [h3.tb (by omega)] at this
    exact this
  unfold nextLenS at hst hwell
  unfold rnd
  rw [hsy]
  generalize nx3 c.tb (field (bnum zs) c.i (lkn zs c.i)) (lkn zs c.i) = t at *
  obtain ⟨tk', ts, tl⟩ := t
  dsimp only at *
  rcases hkk with rfl | rfl | rfl
  · rw [if_neg (by decide), if_neg (by decide)] at hst
    rw [show (if (0 : Nat) = 2 then (2 : Int) else if (0 : Nat) = 0 then 3 else 0) = 3 from rfl, if_neg (show ¬ (3 : Int) = 0 by decide)]
    rcases hst with ⟨c', e, _⟩ | e
    · cases e
    · injection e with e; injection e with e1 _
      exact In2.bad (by show (3 : Int) ≠ 0; decide) e1 (by omega)
  · rw [if_pos rfl] at hst hwell
    rw [show (if (1 : Nat) = 2 then (2 : Int) else if (1 : Nat) = 0 then 3 else 0) = 0 from rfl, if_pos rfl]
    have hs19 := hsm rfl
    by_cases g1 : ts < 16
    · rw [if_pos g1] at hst
      have er : rpt zs (c.i + tl, 0) all ts = ((c.i + tl, 0), all ++ List.replicate 1 (ts : Int)) := by
        unfold rpt ups
        rw [if_neg (by omega), if_neg (by omega), if_neg (by omega), if_pos rfl]
      rw [er]
      exact add_in2 (c1 := { c with i := c.i + tl }) (h3.ati _) (by show 4 ≤ c.st; omega) hst e2 e3 et el (by omega)
    · rw [if_neg g1] at hst hwell
      by_cases g2 : ts = 16 ∧ c.lens.length = 0
      · rw [if_pos g2] at hst
        rcases hst with ⟨c', e, _⟩ | e
        · cases e
        · injection e with e; injection e with e1 _
          obtain ⟨rfl, g3⟩ := g2
          have hb : bdP (c.i + tl, 0) (decide (all.length = 0)) = (c.i + tl, 3) := by
            unfold bdP
            rw [if_pos ⟨rfl, decide_eq_true (by rw [← el]; exact g3)⟩]
          have er : (rpt zs (c.i + tl, 0) all 16).1 = (c.i + tl, 3) := by
            unfold rpt
            rw [if_pos rfl, hb, tk_no (show (3 : Int) ≠ 0 by decide)]
          rw [er, bdP_no (show (3 : Int) ≠ 0 by decide)]
          exact In2.bad (by show (3 : Int) ≠ 0; decide) e1 (by omega)
      · rw [if_neg g2] at hst hwell
        rcases hst with ⟨c', e, h5⟩ | e
        · have hw' := hwell c' e
          injection e with e
          subst e
          exact rep_in2 hw' rfl h5 (by simpa [upd] using e2) (by simpa [upd] using e3) et el (by omega) ts (by simp [upd]) (c.i + tl) rfl
        · cases e
  · rw [if_neg (by decide), if_pos rfl] at hst
    rw [show (if (2 : Nat) = 2 then (2 : Int) else if (2 : Nat) = 0 then 3 else 0) = 2 from rfl, if_neg (show ¬ (2 : Int) = 0 by decide)]
    rcases hst with ⟨c', e, _⟩ | e
    · cases e
    · injection e with e; injection e with e1 _
      exact In2.bad (by show (2 : Int) ≠ 0; decide) e1 (by omega)
/-- A round brings the loop nearer to its end. -/
def mu2 (N : Nat) (r : RR) (all : List Int) : Nat := if r.2 = 0 ∧ all.length < N then N - all.length else 0
theorem mu2_less {zs tb : List Int} {N : Nat} {r : RR} {all : List Int} (h0 : r.2 = 0) (hlt : all.length < N) : mu2 N (rnd zs tb N r all).1 (rnd zs tb N r all).2 < mu2 N r all := by
  have hm : mu2 N r all = N - all.length := by unfold mu2; rw [if_pos ⟨h0, hlt⟩]
  rw [hm]
  unfold mu2
  split
  · rename_i hx
    have hup : ∀ (r' : RR) v t, r'.2 = 0 → (ups r' all v t).length = all.length + t := by
      intro r' v t e; unfold ups; rw [if_pos e]; simp
    have hb0 : ∀ (r' : RR) p, (bdP r' p).2 = 0 → r'.2 = 0 := by
      intro r' p e
      by_cases h : r'.2 = 0
      · exact h
      · rw [bdP_no h] at e; exact e
    have key : all.length < (rnd zs tb N r all).2.length := by
      obtain ⟨x1, x2⟩ := hx
      unfold rnd at x1 ⊢
      split
      · rename_i hs
        rw [if_pos hs] at x1
        have y := hb0 _ _ x1
        revert y
        unfold rpt
        split
        · intro y; dsimp only at y ⊢; rw [hup _ _ _ y]; omega
        · split
          · intro y; dsimp only at y ⊢; rw [hup _ _ _ y]; omega
          · split
            · intro y; dsimp only at y ⊢; rw [hup _ _ _ y]; omega
            · intro y; dsimp only at y ⊢; rw [hup _ _ _ y]; omega
      · rename_i hs
        rw [if_neg hs] at x1
        exact absurd x1 hs
    omega
  · omega
end Go.Proofs.YtlffdadmgginmaeDoor
namespace Go.Proofs.YtlffdadmgginmaeDoor
open Go.RowKit
attribute [local go_sem ↓] Go.wp_at_zero Go.wp_at_succ
set_option linter.unusedVariables false

theorem bit_eq (x : Int) (s : Nat) (x0 : 0 ≤ x) (x1 : x ≤ 255) : (IntKind.u64.wrap (x / 2 ^ s)).tmod 2 = ((x.toNat / 2 ^ s % 2 : Nat) : Int) := by
  obtain ⟨X, rfl⟩ := Int.eq_ofNat_of_zero_le x0
  have e : (X : Int) / 2 ^ s = ((X / 2 ^ s : Nat) : Int) := by rw [pow_int]; simp
  have hd : X / 2 ^ s ≤ X := Nat.div_le_self _ _
  rw [e, Int.toNat_natCast]
  generalize X / 2 ^ s = Y at *
  have hw : IntKind.u64.wrap (Y : Int) = (Y : Int) := by rw [IntKind.wrap_u64]; omega
  rw [hw, Int.tmod_eq_emod_of_nonneg (by omega)]
  omega

set_option maxHeartbeats 1600000 in
/-- spec.l2Bit. -/
theorem l2Bit_any (ao : Option Addr) (cap : Nat) (zs : List Int) (i : Nat) (w : World) (hr : Row w ao zs) (hz : Octets zs) (hl : zs.length ≤ 1000000) (hi : i < 8 * zs.length) :
    Calls Tryd.prog 72 #[.slice ao zs.length cap, .int .i64 i] w fun e w' => e = .returned (.int .u64 (bnum zs / 2 ^ i % 2 : Nat)) ∧ w' = w := by
  obtain ⟨b, off, rfl, hc⟩ := hr.at (k := i / 8) (by omega)
  have hck := hc (i / 8) (by omega)
  have hzk := hz.getD (i / 8)
  have HB : Hid ((zs.getD (i / 8) 0).toNat / 2 ^ (i % 8) % 2 = bnum zs / 2 ^ i % 2) := bnum_bit zs hz i
  obtain ⟨j, hj⟩ : ∃ j : Nat, j = i / 8 := ⟨_, rfl⟩
  obtain ⟨r, hrr⟩ : ∃ r : Nat, r = i % 8 := ⟨_, rfl⟩
  have e1 : ((i : Int) / 8) = (j : Int) := by omega
  have e2 : ((i : Int) % 8) = (r : Int) := by omega
  have hjl : j < zs.length := by omega
  have hr7 : r ≤ 7 := by omega
  rw [← hj] at hck hzk HB
  rw [← hrr] at HB
  clear hc hr hj hrr
  generalize zs.getD j 0 = x at *
  generalize bnum zs / 2 ^ i % 2 = bt at *
  go_enter Tryd.func72, Tryd.ntmps72
  go_wp2_with fail
  go_ret
  exact ⟨ret_i (by rw [bit_eq x r hzk.1 hzk.2, HB.out]), rfl⟩

end Go.Proofs.YtlffdadmgginmaeDoor
namespace Go.Proofs.YtlffdadmgginmaeDoor
open Go.RowKit
attribute [local go_sem ↓] Go.wp_at_zero Go.wp_at_succ
set_option linter.unusedVariables false

/-- Numbers that are the call's own. -/
def OwnsI (B : Nat) (w : World) (ao : Option Addr) (cap : Nat) (zs : List Int) : Prop := w.ownsRow B 2 1 (.slice ao zs.length cap) zs.length (zs.map (Value.int .i64))
theorem OwnsI.of {B : Nat} {w : World} {v : Value} {n : Nat} {zs : List Int} (h : w.ownsRow B 2 1 v n (zs.map (Value.int .i64))) : ∃ ao cap, v = .slice ao zs.length cap ∧ OwnsI B w ao cap zs := by
  have hl : n = zs.length := by have := h.1; simp at this; omega
  subst hl
  rcases h.2 with ⟨rfl, h0⟩ | ⟨g, cap, cur, rfl, h2⟩
  · refine ⟨none, 0, by rw [h0], ?_⟩
    unfold OwnsI
    rw [h0] at h ⊢
    exact h
  · exact ⟨_, cap, rfl, h⟩
theorem OwnsI.grown {B : Nat} {w w' : World} {row : Option Nat} {ao : Option Addr} {cap : Nat} {zs : List Int} (h : OwnsI B w ao cap zs) (hg : w.grownBy w' row) (hne : ∀ k, row = some k → blk ao ≠ some k) : OwnsI B w' ao cap zs := by
  refine World.ownsRow.kept h hg ?_
  cases ao with
  | none => exact .inl rfl
  | some ad => exact .inr (fun he => hne _ he.symm rfl)
theorem OwnsI.below {B : Nat} {w w' : World} {ao : Option Addr} {cap : Nat} {zs : List Int} (h : OwnsI B w ao cap zs) (hb : Below w.heap.size w w') : OwnsI B w' ao cap zs :=
  h.grown (grownBy_of_below hb none) (fun _ e => by cases e)
theorem OwnsI.base {B : Nat} {w : World} {ao : Option Addr} {cap : Nat} {zs : List Int} (h : OwnsI B w ao cap zs) : ∀ g, blk ao = some g → B ≤ g := by
  intro g e
  rcases h.2 with ⟨h1, _⟩ | ⟨g', cap', cur, h1, h2, _⟩
  · simp only [Value.slice.injEq] at h1
    rw [h1.1] at e
    cases e
  · simp only [Value.slice.injEq] at h1
    rw [h1.1] at e
    simp [blk] at e
    omega
theorem OwnsI.at {B : Nat} {w : World} {ao : Option Addr} {cap : Nat} {zs : List Int} (h : OwnsI B w ao cap zs) (h0 : 0 < zs.length) : ∃ g, ao = some ⟨g, 0, none⟩ ∧ B ≤ g ∧ g < w.heap.size ∧ zs.length ≤ cap := by
  rcases h.2 with ⟨_, h1⟩ | ⟨g', cap', cur, h1, h2, h3, h4, _⟩
  · omega
  · simp only [Value.slice.injEq, true_and] at h1
    obtain ⟨rfl, rfl⟩ := h1
    exact ⟨g', rfl, h2, (Array.getElem?_eq_some_iff.1 h3).1, h4⟩
theorem OwnsI.row {B : Nat} {w : World} {ao : Option Addr} {cap : Nat} {zs : List Int} (h : OwnsI B w ao cap zs) : Row64 w ao zs := by
  by_cases h0 : 0 < zs.length
  · obtain ⟨g, rfl, _⟩ := h.at h0
    exact Row64.owned h
  · intro i hi
    omega
theorem OwnsI.cell {B g : Nat} {w : World} {cap : Nat} {zs : List Int} (h : OwnsI B w (some ⟨g, 0, none⟩) cap zs) {k : Nat} (hk : k < zs.length) : w.cell? ⟨g, k, none⟩ = some (.int .i64 (zs.getD k 0)) := by
  have := World.ownsRow.cellAt h k (by omega)
  rw [this]
  simp [List.getD, hk]
theorem OwnsI.set {B g : Nat} {w : World} {cap : Nat} {zs : List Int} (h : OwnsI B w (some ⟨g, 0, none⟩) cap zs) (k : Nat) (x : Int) : OwnsI B (w.setCell ⟨g, k, none⟩ (.int .i64 x)) (some ⟨g, 0, none⟩) cap (zs.set k x) := by
  have h1 := (World.ownsRow.stored h k (.int .i64 x)).1
  unfold OwnsI
  rw [List.length_set, List.map_set]
  exact h1
theorem ownI0 (w : World) (B : Nat) (hB : B ≤ w.heap.size) : OwnsI B (w.alloc (.cells #[] 2)) (some ⟨w.heap.size, 0, none⟩) 0 [] :=
  World.ownsRow_lit w #[] 0 hB (by unfold maxLen; omega) rfl
theorem blk_own64 (ao : Option Addr) (n cap : Nat) : (Value.slice ao n cap).ownBlock = blk ao := by cases ao <;> rfl
theorem news_one (w : World) (x : Value) (t : TypeId) : ∀ j u, ([x] : List Value)[j]? = some u → (w.alloc (.cells #[x] t)).cell? ((⟨w.heap.size, 0, none⟩ : Addr).add j) = some u := by
  intro j u h
  exact alloc_at w #[x] t j u h
theorem Tryd.info_i64d : (Tryd.prog.info? 2).map (fun i => (i.zero, i.size, i.bytes)) = some (some (.int .i64 0), 1, 8) := by kernel_rfl
theorem OwnsI.free {B g : Nat} {w : World} {cap : Nat} {zs : List Int} (h : OwnsI B w (some ⟨g, 0, none⟩) cap zs) (k : Nat) : w.frozen? ⟨g, k, none⟩ = false := World.ownsRow.frozenAt h k
theorem OwnsI.lower {B B' : Nat} {w : World} {ao : Option Addr} {cap : Nat} {zs : List Int} (h : OwnsI B w ao cap zs) (hB : B' ≤ B) : OwnsI B' w ao cap zs := by
  refine ⟨h.1, ?_⟩
  rcases h.2 with h2 | ⟨g, c, cur, h3, h4, h5⟩
  · exact .inl h2
  · exact .inr ⟨g, c, cur, h3, Nat.le_trans hB h4, h5⟩
end Go.Proofs.YtlffdadmgginmaeDoor
