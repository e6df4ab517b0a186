import Derived.Deep.RegionLawGrows
import Derived.Test.YtboniidgoepdcaaGreatDoorMAE
import Derived.Test.YtboniidgoepdcaaGreatDoorMBH
import Derived.Test.YtboniidgoepdcaaGreatDoorMBT
namespace Go.Proofs.YtboniidgoepdcaaGreatDoor
open Go.RowKit
attribute [local go_sem ↓] Go.wp_at_zero Go.wp_at_succ
set_option linter.unusedVariables false

/-- How the inflater ends. -/
def IEndsN (s : Nat) (zs : List Int) : Nat → IC → Int → IC → Prop
  | 0, _, _, _ => False
  | n + 1, c, k, cf => (¬ c.st ≤ 15 ∧ k = 1 ∧ cf = c) ∨ (c.st ≤ 15 ∧ istep0 s zs c = .inr (k, cf)) ∨ (c.st ≤ 15 ∧ ∃ c', istep0 s zs c = .inl c' ∧ IEndsN s zs n c' k cf)
def IEnds (s : Nat) (zs : List Int) (c : IC) (k : Int) (cf : IC) : Prop := ∃ n, IEndsN s zs n c k cf
theorem IEnds.fin {s : Nat} {zs : List Int} {c : IC} (h : ¬ c.st ≤ 15) : IEnds s zs c 1 c := ⟨1, .inl ⟨h, rfl, rfl⟩⟩
theorem IEnds.bad {s : Nat} {zs : List Int} {c cf : IC} {k : Int} (h : c.st ≤ 15) (hs : istep0 s zs c = .inr (k, cf)) : IEnds s zs c k cf := ⟨1, .inr (.inl ⟨h, hs⟩)⟩
theorem IEnds.more {s : Nat} {zs : List Int} {c c' cf : IC} {k : Int} (h : c.st ≤ 15) (hs : istep0 s zs c = .inl c') (h2 : IEnds s zs c' k cf) : IEnds s zs c k cf := by
  obtain ⟨n, hn⟩ := h2
  exact ⟨n + 1, .inr (.inr ⟨h, c', hs, hn⟩)⟩
theorem IEnds.cut {s : Nat} {zs : List Int} {c cf : IC} {k : Int} (h : IEnds s zs c k cf) : (¬ c.st ≤ 15 ∧ k = 1 ∧ cf = c) ∨ (c.st ≤ 15 ∧ istep0 s zs c = .inr (k, cf)) ∨ (c.st ≤ 15 ∧ ∃ c', istep0 s zs c = .inl c' ∧ IEnds s zs c' k cf) := by
  obtain ⟨n, hn⟩ := h
  cases n with
  | zero => exact hn.elim
  | succ n =>
    rcases hn with h | h | ⟨h1, c', h2, h3⟩
    · exact .inl h
    · exact .inr (.inl h)
    · exact .inr (.inr ⟨h1, c', h2, n, h3⟩)
theorem IEnds.step {s : Nat} {zs : List Int} {c c' cf : IC} {k : Int} (h : IEnds s zs c k cf) (h15 : c.st ≤ 15) (hs : istep0 s zs c = .inl c') : IEnds s zs c' k cf := by
  rcases h.cut with ⟨h1, _⟩ | ⟨_, h2⟩ | ⟨_, c2, h2, h3⟩
  · exact absurd h15 h1
  · rw [hs] at h2; cases h2
  · rw [hs] at h2; injection h2 with e; subst e; exact h3
theorem IEnds.stop {s : Nat} {zs : List Int} {c c2 cf : IC} {k k2 : Int} (h : IEnds s zs c k cf) (h15 : c.st ≤ 15) (hs : istep0 s zs c = .inr (k2, c2)) : k = k2 ∧ cf = c2 := by
  rcases h.cut with ⟨h1, _⟩ | ⟨_, h2⟩ | ⟨_, c3, h2, h3⟩
  · exact absurd h15 h1
  · rw [hs] at h2; injection h2 with e; injection e with e1 e2; exact ⟨e1.symm, e2.symm⟩
  · rw [hs] at h2; cases h2
theorem IEnds.at16 {s : Nat} {zs : List Int} {c cf : IC} {k : Int} (h : IEnds s zs c k cf) (h16 : c.st = 16) : k = 1 ∧ cf = c := by
  rcases h.cut with ⟨_, h2⟩ | ⟨h2, _⟩ | ⟨h2, _⟩
  · exact h2
  · omega
  · omega
theorem istep0_no1 {s : Nat} {zs : List Int} {c cf : IC} {k : Int} (hs : istep0 s zs c = .inr (k, cf)) : k = 2 ∨ k = 3 ∨ k = 6 := by
  unfold istep0 at hs
  by_cases h5 : c.st ≤ 5
  · rw [if_pos h5] at hs
    cases hl : lstep0 zs c.lc with
    | inl l => rw [hl] at hs; cases hs
    | inr x =>
      rw [hl] at hs
      obtain ⟨k2, l⟩ := x
      injection hs with e
      injection e with e1 e2
      dsimp only at e1
      subst e1
      rcases lstep0_no hl with h | h
      · exact .inl h
      · exact .inr (.inl h)
  rw [if_neg h5] at hs
  repeat' (split at hs)
  all_goals (try unfold dynamicCodesS at hs)
  all_goals (try unfold blockHeadS at hs)
  all_goals (try unfold blockEndS at hs)
  all_goals (try unfold storedHeadS at hs)
  all_goals (try unfold storedBytesS at hs)
  all_goals (try unfold fixedCodesS at hs)
  all_goals (try unfold literalS at hs)
  all_goals (try unfold copyLengthS at hs)
  all_goals (try unfold distanceS at hs)
  all_goals (try unfold copyDistanceS at hs)
  all_goals repeat' (split at hs)
  all_goals first | (cases hs; done) | (injection hs with e; injection e with e1 e2; omega)
theorem istep0_out {s : Nat} {zs : List Int} {c cf : IC} {k : Int} (hs : istep0 s zs c = .inr (k, cf)) : cf.out = c.out := by
  unfold istep0 at hs
  by_cases h5 : c.st ≤ 5
  · rw [if_pos h5] at hs
    cases hl : lstep0 zs c.lc with
    | inl l => rw [hl] at hs; cases hs
    | inr x =>
      rw [hl] at hs
      obtain ⟨k2, l⟩ := x
      injection hs with e
      injection e with e1 e2
      rw [← e2]
  rw [if_neg h5] at hs
  repeat' (split at hs)
  all_goals (try unfold dynamicCodesS at hs)
  all_goals (try unfold blockHeadS at hs)
  all_goals (try unfold blockEndS at hs)
  all_goals (try unfold storedHeadS at hs)
  all_goals (try unfold storedBytesS at hs)
  all_goals (try unfold fixedCodesS at hs)
  all_goals (try unfold literalS at hs)
  all_goals (try unfold copyLengthS at hs)
  all_goals (try unfold distanceS at hs)
  all_goals (try unfold copyDistanceS at hs)
  all_goals repeat' (split at hs)
  all_goals first | (cases hs; done) | (injection hs with e; injection e with e1 e2; rw [← e2])
theorem IEnds.of_ends {q s : Nat} {zs : List Int} {hzl : zs.length ≤ 65536} {c cf : IW zs} {k : Int} (h : Ends (inowO q) (istep s zs hzl) c k cf) : ∃ c2, IEnds s zs c.1 k c2 ∧ cf.1.out = c2.out ∧ (k = 1 → cf.1 = c2) := by
  refine Ends.ind (X := fun c k cf => ∃ c2, IEnds s zs c.1 k c2 ∧ cf.1.out = c2.out ∧ (k = 1 → cf.1 = c2)) ?_ ?_ ?_ h
  · intro c h1
    refine ⟨c.1, .fin ?_, rfl, fun _ => rfl⟩
    intro h5
    unfold inowO at h1
    rw [if_pos h5] at h1
    cases h1
  · intro c cf k h1 hs
    have h5 : c.1.st ≤ 15 := by
      rcases Nat.lt_or_ge 15 c.1.st with h | h
      · exfalso; apply h1; unfold inowO; rw [if_neg (by omega)]
      · exact h
    obtain ⟨c2, e1, e2, e3⟩ := istep_inr h5 hs
    refine ⟨c2, .bad h5 e1, ?_, fun e => ?_⟩
    · by_cases hk : k = 2
      · subst hk
        rw [e2 rfl, istep0_two (c.2 h5) e1]
      · rw [e3 hk]
        rfl
    · have := istep0_no1 e1
      omega
  · intro c c' cf k h1 hs ih
    have h5 : c.1.st ≤ 15 := by
      rcases Nat.lt_or_ge 15 c.1.st with h | h
      · exfalso; apply h1; unfold inowO; rw [if_neg (by omega)]
      · exact h
    obtain ⟨c2, e1, e2⟩ := ih
    exact ⟨c2, .more h5 (istep_inl h5 hs) e1, e2⟩
/-- The numbers stay well to the end. -/
theorem IEnds.well {s : Nat} {zs : List Int} {c cf : IC} {k : Int} (hzl : zs.length ≤ 65536) (h : IEnds s zs c k cf) (hW : IWell zs c) : cf.out.length ≤ 100000 ∧ (k = 1 → cf.lc.i ≤ 8 * zs.length) := by
  obtain ⟨n, hn⟩ := h
  induction n generalizing c with
  | zero => exact hn.elim
  | succ n ih =>
    rcases hn with ⟨h1, rfl, rfl⟩ | ⟨h1, hs⟩ | ⟨h1, c', hs, h3⟩
    · exact ⟨hW.out, fun _ => hW.le⟩
    · refine ⟨?_, fun e => by have := istep0_no1 hs; omega⟩
      rw [istep0_out hs]
      exact hW.out
    · exact ih (istep0_ok hW h1 hzl hs).1 h3
end Go.Proofs.YtboniidgoepdcaaGreatDoor
namespace Go.Proofs.YtboniidgoepdcaaGreatDoor
open Go.RowKit
attribute [local go_sem ↓] Go.wp_at_zero Go.wp_at_succ
set_option linter.unusedVariables false

/-- Three cells. -/
structure Rs3v (w : World) (g : Nat) (v0 v1 v2 : Value) : Prop where
  c0 : w.cell? ⟨g, 0, none⟩ = some v0
  c1 : w.cell? ⟨g, 1, none⟩ = some v1
  c2 : w.cell? ⟨g, 2, none⟩ = some v2
  f : ∀ k, w.frozen? ⟨g, k, none⟩ = false
theorem rs3v_new (w : World) (v0 v1 v2 : Value) (t : TypeId) : Rs3v (w.alloc (.cells #[v0, v1, v2] t)) w.heap.size v0 v1 v2 := by
  refine ⟨?_, ?_, ?_, fun k => ?_⟩ <;> simp [go_sem]
theorem Rs3v.below {w w' : World} {B g : Nat} {v0 v1 v2 : Value} (h : Rs3v w g v0 v1 v2) (hb : Below B w w') (hg : g < B) : Rs3v w' g v0 v1 v2 :=
  ⟨(hb.cell (p := ⟨g, 0, none⟩) hg).trans h.c0, (hb.cell (p := ⟨g, 1, none⟩) hg).trans h.c1, (hb.cell (p := ⟨g, 2, none⟩) hg).trans h.c2, fun k => (hb.frozen (p := ⟨g, k, none⟩) hg).trans (h.f k)⟩
theorem Rs3v.set {w : World} {g : Nat} {v0 v1 v2 : Value} (h : Rs3v w g v0 v1 v2) (x0 x1 x2 : Value) :
    Rs3v (((w.setCell ⟨g, 0, none⟩ x0).setCell ⟨g, 1, none⟩ x1).setCell ⟨g, 2, none⟩ x2) g x0 x1 x2 ∧ w.grownBy (((w.setCell ⟨g, 0, none⟩ x0).setCell ⟨g, 1, none⟩ x1).setCell ⟨g, 2, none⟩ x2) (some g) := by
  have hn : ∀ (W : World) (x : Value) (i j : Nat), i ≠ j → (W.setCell ⟨g, i, none⟩ x).cell? ⟨g, j, none⟩ = W.cell? ⟨g, j, none⟩ := fun W x i j hij => World.cell?_setCell_other _ _ _ _ (by first | (simp; done) | (simp; omega))
  refine ⟨⟨?_, ?_, ?_, fun k => ?_⟩, ?_⟩
  · rw [hn _ _ 2 0 (by decide), hn _ _ 1 0 (by decide), World.cell?_setCell_same _ _ _ h.c0]
  · rw [hn _ _ 2 1 (by decide), World.cell?_setCell_same _ _ _ (u := v1) (by rw [hn _ _ 0 1 (by decide)]; exact h.c1)]
  · rw [World.cell?_setCell_same _ _ _ (u := v2) (by rw [hn _ _ 1 2 (by decide), hn _ _ 0 2 (by decide)]; exact h.c2)]
  · simp only [World.frozen?_setCell]
    exact h.f k
  · exact grownBy_trans (grownBy_trans (grownBy_setCell w ⟨g, 0, none⟩ _) (grownBy_setCell _ ⟨g, 1, none⟩ _)) (grownBy_setCell _ ⟨g, 2, none⟩ _)
/-- What Inflate answers: number, what was told, bits. -/
def InfIs (k : Int) (out : List Int) (n : Int) (e : Ending) (w w' : World) : Prop :=
  ∃ a c, e = .returned (.agg #[.int .i64 k, .slice a out.length c, .int .i64 n]) ∧ OwnsB 5 w.heap.size w' a c out ∧ Below w.heap.size w w'
def iRes (k : Int) (cf : IC) : Int := if k = 1 then (cf.lc.i : Int) else 0
theorem OwnsB.nil (e B : Nat) (w : World) : OwnsB e B w none 0 [] := ⟨rfl, .inl ⟨rfl, rfl⟩⟩
theorem ic0_well (zs t : List Int) : IWell zs (ic0 t) := by
  refine ⟨by show (7 : Nat) ≤ 16; omega, Nat.zero_le _, Nat.zero_le _, fun h => ?_, fun _ => rfl, fun h => ?_, fun h => ?_, fun h => ?_, fun h _ => ?_, fun h => ?_, fun h => ?_, fun h => ?_⟩
  · have : (7 : Nat) ≤ 6 := h; omega
  · have : (7 : Nat) = 6 := h; omega
  · have : (7 : Nat) = 9 ∨ (7 : Nat) = 10 := h; omega
  · have : (7 : Nat) = 10 := h; omega
  · have : (12 : Nat) ≤ 7 := h; omega
  · have : (7 : Nat) = 13 := h; omega
  · have : (7 : Nat) = 14 ∨ (7 : Nat) = 15 := h; omega
  · have : (7 : Nat) = 15 := h; omega
set_option maxRecDepth 100000 in
set_option maxHeartbeats 3200000 in
theorem iinflate_long (v1 v2 : Value) (ao : Option Addr) (n cap : Nat) (w : World) (hl : ¬ n ≤ 65536) :
    Calls Tryz.prog 9 #[.slice ao n cap, v1, v2] w fun e w' => InfIs 7 [] 0 e w w' := by
  have hd1 : decide ((n : Int) > 65536) = true := decide_eq_true (by omega)
  have B0 : Hid (Below w.heap.size w (w.alloc (.cells #[.int .i64 7, .slice none 0 0, .int .i64 0] 34))) := (Below.refl _ _).alloc (Nat.le_refl _) _
  go_enter Tryz.func9, Tryz.ntmps9
  go_wp2_with fail
  exact bodyPost_ret (v := .agg #[.int .i64 7, .slice none 0 0, .int .i64 0]) (by simp [results, Tryz.results9, go_sem]) rfl ⟨none, 0, rfl, OwnsB.nil _ _ _, B0.out⟩
set_option maxRecDepth 100000 in
set_option maxHeartbeats 3200000 in
theorem iinflate_bad (v2 : Value) (s : Int) (ao : Option Addr) (n cap : Nat) (w : World) (hl : n ≤ 65536) (hs : ¬ (1 ≤ s ∧ s ≤ 32768)) :
    Calls Tryz.prog 9 #[.slice ao n cap, .int .i64 s, v2] w fun e w' => InfIs 3 [] 0 e w w' := by
  have hd1 : decide ((n : Int) > 65536) = false := decide_eq_false (by omega)
  have hv : vsz s = false := decide_eq_false hs
  have HV : Hid _ := validSize_any s
  have B0 : Hid (Below w.heap.size w (w.alloc (.cells #[.int .i64 3, .slice none 0 0, .int .i64 0] 34))) := (Below.refl _ _).alloc (Nat.le_refl _) _
  rw [hv] at HV
  go_enter Tryz.func9, Tryz.ntmps9
  go_wp2_with fail
  refine Calls.mono (HV.out _) ?_
  rintro e w1 ⟨rfl, rfl⟩
  go_wp2_with fail
  exact bodyPost_ret (v := .agg #[.int .i64 3, .slice none 0 0, .int .i64 0]) (by simp [results, Tryz.results9, go_sem]) rfl ⟨none, 0, rfl, OwnsB.nil _ _ _, B0.out⟩
set_option maxRecDepth 100000 in
set_option maxHeartbeats 6400000 in
theorem iinflate_any (ao bo : Option Addr) (cap cb : Nat) (zs d : List Int) (s : Nat) (w : World) (hr : Row w ao zs) (hnil : ao = none → zs.length = 0 ∧ cap = 0) (hz : Octets zs) (hl : zs.length ≤ 65536) (hs0 : 0 < s) (hs1 : s ≤ 32768) (hrd : Row w bo d) (hdf : d.length ≤ cb) (hdc : cb ≤ maxLen) (hdb : ∀ ad, bo = some ad → ad.block < w.heap.size) (hG : Glob w) :
    Calls Tryz.prog 9 #[.slice ao zs.length cap, .int .i64 (s : Nat), .slice bo d.length cb] w fun e w' => ∃ k cf, IEnds s zs (ic0 (lastN s d)) k cf ∧ InfIs k cf.out (iRes k cf) e w w' := by
  have HR := hideM hr
  have HNIL := hideM hnil
  have HZ := hideM hz
  have HG := hideM hG
  have hGs := hG.sz
  have hd1 : decide ((zs.length : Int) > 65536) = false := decide_eq_false (by omega)
  have hv : vsz s = true := decide_eq_true (by omega)
  have HV : Hid _ := validSize_any s
  rw [hv] at HV
  have b0 : Below w.heap.size w (w.alloc (.cells #[.int .i64 0, .slice none 0 0, .int .i64 0] 34)) := (Below.refl _ _).alloc (Nat.le_refl _) _
  have B0 := hideM b0
  have R0 := hideM (rs3v_new w (.int .i64 0) (.slice none 0 0) (.int .i64 0) 34)
  have z0 : (w.alloc (.cells #[.int .i64 0, .slice none 0 0, .int .i64 0] 34)).heap.size = w.heap.size + 1 := by simp
  have NR := hideM (newRing_any s d bo cb (w.alloc (.cells #[.int .i64 0, .slice none 0 0, .int .i64 0] 34)) hs0 hs1 (hrd.below b0) hdf hdc (fun ad e => by rw [z0]; exact Nat.lt_succ_of_lt (hdb ad e)))
  rw [z0] at NR
  clear hr hnil hz hG hrd hdf hdc hdb b0
  go_enter Tryz.func9, Tryz.ntmps9
  go_wp2_with fail
  refine Calls.mono (HV.out _) ?_
  rintro e w0 ⟨rfl, rfl⟩
  go_wp2_with fail
  refine Calls.mono NR.out ?_
  rintro e w1 ⟨g, rfl, hg0, hg1, hring, hbr⟩
  have NI := hideM (newInflater_any g w1)
  have b1 := hbr.mono hg0
  have B1 := hideM (B0.out.trans (b1.mono (Nat.le_succ _)))
  have R1 := hideM (R0.out.below b1 (Nat.lt_succ_self _))
  have T1 : Hid (RingT w1 g s (lastN s d)) := hring
  clear hring hbr b1 B0 R0 NR z0
  go_wp2_with fail
  refine Calls.mono NI.out ?_
  rintro e w2 ⟨q, p, a1, c1, rfl, hN, hS, hO, hp, hpq, hq, hne, hnq, hb⟩
  have hw1 : w.heap.size + 1 ≤ w1.heap.size := by omega
  have B2 := hideM (B1.out.trans (hb.mono (by omega)))
  have R2 := hideM (R1.out.below hb (by omega))
  have T2 : Hid (RingT w2 g s (lastN s d)) := T1.out.keep (hb.block g hg1)
  have N2 := hideM hN
  have hc0 := hN.c0
  have HNE := hideM (And.intro hne hnq)
  have HBS := hideM (OwnsB.based hO)
  have FD := hideM (feed_new p a1 ao c1 cap zs (w.heap.size + 1) w2 hS (OwnsB.mono hO hw1) (by omega) (by omega) hne (HR.out.below B2.out) HNIL.out hl)
  clear hN hS hO hne hnq hb B1 R1 T1 NI
  go_wp2_with fail
  refine Calls.mono FD.out ?_
  rintro e w3 ⟨rfl, ⟨a2, c2, hs2, hr2, hcap2, hbl2⟩, hk2, hb2⟩
  obtain ⟨hB, hBe, hBp, hBq, hBg, hBl, hBw⟩ : ∃ hB, (∀ ad, a2 = some ad → ad.block = hB) ∧ hB ≠ p ∧ hB ≠ q ∧ hB ≠ g ∧ w.heap.size ≤ hB ∧ hB < w3.heap.size := by
    cases a2 with
    | none => exact ⟨w.heap.size, ⟨(fun ad e => by cases e), by omega, by omega, by omega, Nat.le_refl _, by have := hb2.size; omega⟩⟩
    | some ad =>
      obtain ⟨h1, h2, h3⟩ := hbl2 ad rfl
      refine ⟨ad.block, ⟨(fun ad' e => by cases e; rfl), ?_, ?_, ?_, by omega, h3⟩⟩
      · rcases h1 with h | h
        · intro e; exact HNE.out.1 (e ▸ h)
        · omega
      · rcases h1 with h | h
        · intro e; exact HNE.out.2 (e ▸ h)
        · omega
      · rcases h1 with h | h
        · have := HBS.out _ h; omega
        · omega
  have RD3 : Rd w3 p hB zs 0 := ⟨Nat.zero_le _, hBp, a2, c2, hs2, hr2, hcap2, hBe⟩
  have N3 := N2.out.same (hk2 q hq (by omega) (fun e => HNE.out.2 e))
  have T3 : RingT w3 g s (lastN s d) := T2.out.keep (hk2 g (by omega) (by omega) (fun e => by have := HBS.out g e; omega))
  have B3 := hideM (B2.out.trans (hb2.mono (Nat.le_succ _)))
  have G3 := HG.out.below B3.out hGs
  have M3 := N3.mem (s := s) (B := w.heap.size + 1) (zs := zs) (by omega) hBq (by omega) (by omega) (fun e => hBg e.symm) (by omega) (by omega) (by omega) hg0 (by omega) hBw ⟨hs0, hs1⟩ RD3 T3 G3
  have R3 := hideM (R2.out.below hb2 (Nat.lt_succ_self _))
  have hq3 : q < w3.heap.size := by have := hb2.size; omega
  have RUN := hideM (inflate_run q p hB g s (w.heap.size + 1) zs HZ.out hl ⟨ic0 (lastN s d), fun _ => ic0_well zs _⟩ w3 M3 N3.c1)
  clear hs2 hr2 hcap2 hbl2 hk2 hb2 hBe RD3 N3 T3 G3 M3 N2 T2 B2 R2 HNE HBS FD hc0
  go_wp2_with fail
  refine Calls.mono RUN.out ?_
  rintro e w4 ⟨k, cf, rfl, hE, hM, hb4⟩
  obtain ⟨c2', hIE, ho2, h1c⟩ := IEnds.of_ends hE
  have B4 := hideM (B3.out.trans (hb4.mono (Nat.le_succ _)))
  have R4 := hideM (R3.out.below hb4 (Nat.lt_succ_self _))
  have HIE := hideM hIE
  have hq4 : q < w4.heap.size := by have := hb4.size; omega
  have hM4 : IMem q p hB g s (w.heap.size + 1) zs .nilFunc w4 cf.1 := hM
  obtain ⟨T, hIR, _⟩ := hM4.ex
  obtain ⟨oa, oc, q30, hown, _⟩ := hIR.o30
  rw [ho2] at q30 hown
  have OW := hideM hown
  have HBO := hideM (OwnsB.based hown)
  obtain ⟨n, hn⟩ : ∃ n, c2'.out.length = n := ⟨_, rfl⟩
  have HN := hideM hn
  rw [hn] at q30
  obtain ⟨r0, r1, r2, rf⟩ := R4.out
  have rf0 := rf 0
  have rf1 := rf 1
  have rf2 := rf 2
  have q0 := hM4.lm.c0
  obtain ⟨us, hus⟩ : ∃ us : Nat, cf.1.lc.i = us := ⟨_, rfl⟩
  have hsrc : w4.cell? ⟨p, 2, none⟩ = some (.int .i64 (us : Nat)) := by
    obtain ⟨_, _, hh, _⟩ := hM4.lm.rd.src
    have := hh.2.2.1
    rw [← hus]
    exact this
  have hp4 : p < w4.heap.size := hM4.lm.rd.lt
  have H1C := hideM h1c
  have HUS := hideM hus
  clear hE hIE RUN B3 R3 hb4 hM hM4 hIR hown ho2 h1c rf hn hus
  by_cases hk1 : k = 1
  · subst hk1
    have E := hideM (R4.out.set (.int .i64 1) (.slice oa n oc) (.int .i64 (us : Nat)))
    have hw4 := B4.out.size
    have B5 := hideM (B4.out.grown E.out.2 B4.out.size (fun k e => by simp at e; omega))
    have O5 := hideM ((OW.out.mono (Nat.le_succ _)).grown E.out.2 (fun k e e2 => by have := HBO.out k e2; simp at e; omega))
    have HQ : Hid (cf.1 = c2') := H1C.out rfl
    clear OW HBO H1C
    go_upto_region 10 with fail
    go_region
    go_wp2_with fail
    obtain ⟨⟨y0, y1, y2, _⟩, _⟩ := E.out
    exact bodyPost_ret (v := .agg #[.int .i64 1, .slice oa n oc, .int .i64 (us : Nat)]) (by simp [results, Tryz.results9, go_sem, y0, y1, y2]) rfl ⟨1, c2', HIE.out, oa, oc, by unfold iRes; rw [if_pos rfl, HN.out, ← HQ.out, HUS.out], O5.out.below (Below.refl _ _).drew, B5.out.drew⟩
  · have hkb : (k != 1) = true := by simp [hk1]
    have HK1 := hideM hk1
    have E := hideM (R4.out.set (.int .i64 k) (.slice oa n oc) (.int .i64 0))
    have hw4 := B4.out.size
    have B5 := hideM (B4.out.grown E.out.2 B4.out.size (fun k e => by simp at e; omega))
    have O5 := hideM ((OW.out.mono (Nat.le_succ _)).grown E.out.2 (fun k e e2 => by have := HBO.out k e2; simp at e; omega))
    clear OW HBO hk1
    go_wp2_with fail
    obtain ⟨⟨y0, y1, y2, _⟩, _⟩ := E.out
    exact bodyPost_ret (v := .agg #[.int .i64 k, .slice oa n oc, .int .i64 0]) (by simp [results, Tryz.results9, go_sem, y0, y1, y2]) rfl ⟨k, c2', HIE.out, oa, oc, by unfold iRes; rw [if_neg HK1.out, HN.out], O5.out, B5.out⟩
end Go.Proofs.YtboniidgoepdcaaGreatDoor
