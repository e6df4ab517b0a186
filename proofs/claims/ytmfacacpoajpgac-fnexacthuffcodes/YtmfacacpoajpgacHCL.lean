import Derived.Test.YtmfacacpoajpgacHCS
namespace Go.Proofs.Ytmfacacpoajpgac
open Go.RowKit
attribute [local go_sem ↓] Go.wp_at_zero Go.wp_at_succ
set_option linter.unusedVariables false

/-- Codes that can be read: no block is named where there are none. -/
def Reads (w : World) (ao : Option Addr) (n : Nat) (F : Nat → Nat × Nat) : Prop := 0 < n → ∃ g, ao = some ⟨g, 0, none⟩ ∧ Codes w g n F
theorem RowH.reads {B : Nat} {w : World} {ao : Option Addr} {n : Nat} {F : Nat → Nat × Nat} (h : RowH B w ao n F) : Reads w ao n F := fun h0 => by
  obtain ⟨g, h1, _, h2⟩ := h h0
  exact ⟨g, h1, h2⟩

theorem eqHuff_same (a b : Nat) (w : World) : Calls Try.prog 44 #[.agg #[.int .i64 a, .int .u64 b], .agg #[.int .i64 a, .int .u64 b]] w fun e w' => e = .returned (.bool true) ∧ Below w.heap.size w w' := by
  have h1 : ((a : Int) != (a : Int)) = false := by simp
  have h2 : ((b : Int) != (b : Int)) = false := by simp
  go_enter Try.func44, Try.ntmps44
  go_wp2_with fail
  go_ret
  exact ⟨rfl, ((Below.refl _ _).alloc (Nat.le_refl _) _).alloc (by simp) _⟩

set_option maxRecDepth 100000 in
set_option maxHeartbeats 1600000 in
theorem eqHuffS_same (ao bo : Option Addr) (ca cb n : Nat) (F : Nat → Nat × Nat) (w : World) (ha : Reads w ao n F) (hb : Reads w bo n F) (hn : n ≤ 1048576) :
    Calls Try.prog 12 #[.slice ao n ca, .slice bo n cb] w fun e w' => e = .returned (.bool true) ∧ Below w.heap.size w w' := by
  have h0 : ((n : Int) != (n : Int)) = false := by simp
  have HA := hideH ha
  have HB := hideH hb
  clear ha hb
  go_enter Try.func12, Try.ntmps12
  go_wp2_with fail
  go_loopw [5] (fun i wr => ∃ k : Nat, k ≤ n ∧ i = .int .i64 k ∧ Below w.heap.size w wr) (fun i _ => n - (intOf i).toNat)
  case atStart => exact ⟨0, Nat.zero_le _, rfl, Below.refl _ _⟩
  case round =>
    obtain ⟨k, hk, rfl, hB⟩ := hrel
    by_cases hlt : k < n
    · obtain ⟨g1, rfl, h1⟩ := HA.out (by omega)
      obtain ⟨g2, rfl, h2⟩ := HB.out (by omega)
      have k1 := h1.grown (grownBy_of_below hB none) (by simp)
      have k2 := h2.grown (grownBy_of_below hB none) (by simp)
      have a0 := k1.at0 k hlt
      have a1 := k1.at1 k hlt
      have b0 := k2.at0 k hlt
      have b1 := k2.at1 k hlt
      have hkl : (k : Int) < (n : Int) := by omega
      have HE := hideH (fun W => eqHuff_same (F k).1 (F k).2 W)
      have HBx := hideH hB
      have z1 := k1.lt
      have z2 := k2.lt
      have HK1 := hideH k1
      have HK2 := hideH k2
      clear h1 h2 k1 k2 hB
      generalize hf1 : (F k).1 = x at *
      generalize hf2 : (F k).2 = y at *
      go_wp2_with fail
      go_region_held3 (fun w' => w'.cell? ⟨g1, k * 2, none⟩ = some (.int .i64 x) ∧ w'.cell? ⟨g1, k * 2 + 1, none⟩ = some (.int .u64 y) ∧ w'.cell? ⟨g2, k * 2, none⟩ = some (.int .i64 x) ∧ w'.cell? ⟨g2, k * 2 + 1, none⟩ = some (.int .u64 y))
        (first | (refine ⟨?_, ?_, ?_, ?_⟩ <;> with_reducible assumption) | (go_keep; done))
        ((go_at_call 44; refine Calls.mono (HE.out _) ?_; rintro e w7 ⟨rfl, hb7⟩; have q1 := HK1.out.grown (grownBy_of_below (((Below.refl _ _).drew).trans hb7) none) (by simp); have q2 := HK2.out.grown (grownBy_of_below (((Below.refl _ _).drew).trans hb7) none) (by simp); have a0' := q1.at0 k hlt; have a1' := q1.at1 k hlt; have b0' := q2.at0 k hlt; have b1' := q2.at1 k hlt; rw [hf1] at a0' b0'; rw [hf2] at a1' b1'))
      have hb8 : Below wr.heap.size wr w7 := ((Below.refl _ _).drew).trans hb7
      have hB9 := HBx.out.trans (hb8.mono HBx.out.size)
      clear hb7 hb8 q1 q2
      go_wp2_with fail
      go_roundw
      case rel => exact ⟨k + 1, by omega, by go_num, hB9⟩
      case measure => simp [intOf]; omega
    · have e : k = n := by omega
      subst e
      go_wp2_with fail
      go_ret
      exact ⟨rfl, hB⟩

set_option maxHeartbeats 1600000 in
theorem markInt_any (B e g n : Nat) (k : Nat) (xs : List Value) (w : World) (ho : w.ownsRow B e 1 (.slice (some ⟨g, 0, none⟩) n n) n xs) (hn : n ≤ 1048576) (hk : k ≤ 1048576) :
    Calls Try.prog 14 #[.slice (some ⟨g, 0, none⟩) n n, .int .i64 k] w fun e' w' => e' = .returned (.int .i64 ((k + n : Nat) : Int)) ∧ w.grownBy w' (some g) := by
  go_enter Try.func14, Try.ntmps14
  go_wp2_with fail
  go_loopw [1, 5] (fun kk i wr => ∃ (j K : Nat) (xs : List Value), j ≤ n ∧ kk = .int .i64 K ∧ Hid (K = k + j) ∧ K ≤ 2097152 ∧ i = .int .i64 j ∧ wr.ownsRow B e 1 (.slice (some ⟨g, 0, none⟩) n n) n xs ∧ w.grownBy wr (some g)) (fun _ i _ => n - (intOf i).toNat)
  case atStart => exact ⟨0, k, xs, Nat.zero_le _, rfl, (rfl : k = k + 0), by omega, rfl, ho, World.grownBy.refl _ _⟩
  case round =>
    clear ho
    obtain ⟨j, K, xs', hj, rfl, HK, hK, rfl, ho, hg⟩ := hrel
    by_cases hlt : j < n
    · have hfz := ho.frozenAt j
      have hxl : xs'.length = n := by have := ho.1; omega
      obtain ⟨u, hcu⟩ : ∃ u, wr.cell? ⟨g, j, none⟩ = some u := by
        rw [ho.cellAt j (by omega)]
        exact ⟨_, List.getElem?_eq_getElem (by omega)⟩
      obtain ⟨ho2, hg2⟩ := ho.stored j (.int .i64 K)
      have hg3 := grownBy_trans hg hg2
      have HK2 : Hid (K + 1 = k + (j + 1)) := by show _ = _; rw [HK.out]; omega
      have hK2 : K + 1 ≤ 2097152 := by have := HK.out; omega
      clear ho hg hg2 hxl
      go_wp2_with fail
      go_roundw
      case rel => exact ⟨j + 1, K + 1, _, by omega, by go_num, HK2, hK2, by go_num, ho2, hg3⟩
      case measure => simp [intOf]; omega
    · have e1 : j = n := by omega
      have hE : K = k + n := by rw [HK.out, e1]
      have HE := hideH hE
      clear hE e1
      go_wp2_with fail
      go_ret
      exact ⟨by rw [← HE.out]; rfl, hg⟩

/-- The block that marking writes. -/
def hRow (n : Nat) (ao : Option Addr) : Option Nat := if n = 0 then none else blk ao
theorem hRow_pos {n g : Nat} (h : 0 < n) : hRow n (some ⟨g, 0, none⟩) = some g := by rw [hRow, if_neg (by omega)]; rfl
/-- The marks. -/
def mkF (k : Nat) (i : Nat) : Nat × Nat := (k + 2 * i, k + 2 * i + 1)
theorem Codes.set0 {w : World} {g n : Nat} {F : Nat → Nat × Nat} (h : Codes w g n F) {k : Nat} (hk : k < n) (a : Nat) : Codes (w.setCell ⟨g, k * 2, none⟩ (.int .i64 a)) g n (fun i => if i = k then (a, (F i).2) else F i) ∧ w.grownBy (w.setCell ⟨g, k * 2, none⟩ (.int .i64 a)) (some g) := by
  refine ⟨⟨by simpa using h.lt, ?_, ?_, fun o => by rw [World.frozen?_setCell]; exact h.free o⟩, grownBy_setCell w ⟨g, k * 2, none⟩ _⟩
  · intro i hi
    by_cases e : i = k
    · subst e
      rw [World.cell?_setCell_same _ _ _ (h.at0 i hi)]
      simp
    · rw [World.cell?_setCell_other _ _ _ _ (by first | (simp; done) | (simp; omega)), h.at0 i hi]
      simp [e]
  · intro i hi
    rw [World.cell?_setCell_other _ _ _ _ (by first | (simp; done) | (simp; omega)), h.at1 i hi]
    by_cases e : i = k <;> simp [e]
theorem Codes.set1 {w : World} {g n : Nat} {F : Nat → Nat × Nat} (h : Codes w g n F) {k : Nat} (hk : k < n) (b : Nat) : Codes (w.setCell ⟨g, k * 2 + 1, none⟩ (.int .u64 b)) g n (fun i => if i = k then ((F i).1, b) else F i) ∧ w.grownBy (w.setCell ⟨g, k * 2 + 1, none⟩ (.int .u64 b)) (some g) := by
  refine ⟨⟨by simpa using h.lt, ?_, ?_, fun o => by rw [World.frozen?_setCell]; exact h.free o⟩, grownBy_setCell w ⟨g, k * 2 + 1, none⟩ _⟩
  · intro i hi
    rw [World.cell?_setCell_other _ _ _ _ (by first | (simp; done) | (simp; omega)), h.at0 i hi]
    by_cases e : i = k <;> simp [e]
  · intro i hi
    by_cases e : i = k
    · subst e
      rw [World.cell?_setCell_same _ _ _ (h.at1 i hi)]
      simp
    · rw [World.cell?_setCell_other _ _ _ _ (by first | (simp; done) | (simp; omega)), h.at1 i hi]
      simp [e]
set_option maxRecDepth 100000 in
set_option maxHeartbeats 3200000 in
theorem markHuff_any (B : Nat) (ao : Option Addr) (n cap : Nat) (F : Nat → Nat × Nat) (k : Nat) (w : World) (h : RowH B w ao n F) (hn : n ≤ 1048576) (hk : k ≤ 1048576) :
    Calls Try.prog 15 #[.slice ao n cap, .int .i64 k] w fun e' w' => e' = .returned (.int .i64 ((k + 2 * n : Nat) : Int)) ∧ RowH B w' ao n (mkF k) ∧ w.grownBy w' (hRow n ao) := by
  have HH := hideH h
  clear h
  go_enter Try.func15, Try.ntmps15
  go_wp2_with fail
  go_loopw [1, 5] (fun kk i wr => ∃ (j K : Nat), j ≤ n ∧ kk = .int .i64 K ∧ Hid (K = k + 2 * j) ∧ K ≤ 4194304 ∧ i = .int .i64 j ∧ RowH B wr ao n (fun i => if i < j then mkF k i else F i) ∧ w.grownBy wr (hRow n ao)) (fun _ i _ => n - (intOf i).toNat)
  case atStart => exact ⟨0, k, Nat.zero_le _, rfl, (rfl : k = k + 2 * 0), by omega, rfl, (by simpa using HH.out), World.grownBy.refl _ _⟩
  case round =>
    clear HH
    obtain ⟨j, K, hj, rfl, HK, hK, rfl, hR, hg⟩ := hrel
    by_cases hlt : j < n
    · obtain ⟨g, rfl, hgB, hC⟩ := hR (by omega)
      have c0 := hC.at0 j hlt
      have f0 := hC.free (j * 2)
      obtain ⟨hC1, hg1⟩ := hC.set0 hlt K
      have c1 := hC1.at1 j hlt
      have f1 := hC1.free (j * 2 + 1)
      obtain ⟨hC2, hg2⟩ := hC1.set1 hlt (K + 1)
      have hC3 := hC2.congr (G := fun i => if i < j + 1 then mkF k i else F i) (fun i _ => by
        by_cases e : i = j
        · subst e
          have h2 := HK.out
          simp [mkF, h2]
        · rw [if_neg e, if_neg e]
          by_cases h1 : i < j
          · rw [if_pos h1, if_pos (by omega)]
          · rw [if_neg h1, if_neg (by omega)])
      have hrw := hRow_pos (n := n) (g := g) (by omega)
      rw [hrw] at hg
      have hg3 := grownBy_trans (grownBy_trans hg hg1) hg2
      have HK2 : Hid (K + 2 = k + 2 * (j + 1)) := by show _ = _; rw [HK.out]; omega
      have hK2 : K + 2 ≤ 4194304 := by have := HK.out; omega
      have hjl : (j : Int) < (n : Int) := by omega
      have hR3 : RowH B ((wr.setCell ⟨g, j * 2, none⟩ (.int .i64 K)).setCell ⟨g, j * 2 + 1, none⟩ (.int .u64 ((K + 1 : Nat) : Int))) (some ⟨g, 0, none⟩) n (fun i => if i < j + 1 then mkF k i else F i) := fun _ => ⟨g, rfl, hgB, hC3⟩
      simp only [Int.natCast_add] at hR3 hg3
      have HR3 := hideH hR3
      have HG3 := hideH hg3
      have HRW := hideH hrw
      clear hrw
      obtain ⟨u0, hu0⟩ : ∃ u, wr.cell? ⟨g, j * 2, none⟩ = some u := ⟨_, c0⟩
      obtain ⟨u1, hu1⟩ : ∃ u, (wr.setCell ⟨g, j * 2, none⟩ (.int .i64 K)).cell? ⟨g, j * 2 + 1, none⟩ = some u := ⟨_, c1⟩
      clear c0 c1 hC hC1 hC2 hC3 hg hg1 hg2 hg3 hR hR3 HK
      go_wp2_with fail
      go_roundw
      case rel => exact ⟨j + 1, K + 2, by omega, by go_num, HK2, hK2, by go_num, HR3.out, by rw [HRW.out]; exact HG3.out⟩
      case measure => simp [intOf]; omega
    · have e1 : j = n := by omega
      have hE : K = k + 2 * n := by rw [HK.out, e1]
      have HE := hideH hE
      have hR2 : RowH B wr ao n (mkF k) := fun h0 => by
        obtain ⟨g, h1, h2, h3⟩ := hR h0
        exact ⟨g, h1, h2, h3.congr (fun i hi => if_pos (by omega))⟩
      have HR2 := hideH hR2
      clear hE e1 hR hR2
      go_wp2_with fail
      go_ret
      exact ⟨by rw [← HE.out]; rfl, HR2.out, hg⟩

set_option maxRecDepth 100000 in
set_option maxHeartbeats 3200000 in
theorem heldHuff_any (B : Nat) (ao : Option Addr) (n cap : Nat) (k : Nat) (w : World) (h : RowH B w ao n (mkF k)) (hn : n ≤ 1048576) (hk : k ≤ 1048576) :
    Calls Try.prog 16 #[.slice ao n cap, .int .i64 k] w fun e' w' => e' = .returned (.int .i64 ((k + 2 * n : Nat) : Int)) ∧ w' = w := by
  have HH := hideH h
  clear h
  go_enter Try.func16, Try.ntmps16
  go_wp2_with fail
  go_loop [1, 5] (fun kk i => ∃ (j K : Nat), j ≤ n ∧ kk = .int .i64 K ∧ Hid (K = k + 2 * j) ∧ K ≤ 4194304 ∧ i = .int .i64 j) (fun _ i => n - (intOf i).toNat)
  case atStart => exact ⟨0, k, Nat.zero_le _, rfl, (rfl : k = k + 2 * 0), by omega, rfl⟩
  case round =>
    obtain ⟨j, K, hj, rfl, HK, hK, rfl⟩ := hrel
    by_cases hlt : j < n
    · obtain ⟨g, rfl, hgB, hC⟩ := HH.out (by omega)
      have c0 := hC.at0 j hlt
      have c1 := hC.at1 j hlt
      have e0 : (mkF k j).1 = K := by rw [HK.out]; rfl
      have e1 : (mkF k j).2 = K + 1 := by rw [HK.out]; rfl
      rw [e0] at c0
      rw [e1, Int.natCast_add] at c1
      have HK2 : Hid (K + 2 = k + 2 * (j + 1)) := by show _ = _; rw [HK.out]; omega
      have hK2 : K + 2 ≤ 4194304 := by have := HK.out; omega
      have hjl : (j : Int) < (n : Int) := by omega
      clear hC e0 e1 HK
      go_wp2_with fail
      go_round
      case rel => exact ⟨j + 1, K + 2, by omega, by go_num, HK2, hK2, by go_num⟩
      case measure => simp [intOf]; omega
    · have e1 : j = n := by omega
      have hE : K = k + 2 * n := by rw [HK.out, e1]
      have HE := hideH hE
      clear hE e1
      go_wp2_with fail
      go_ret
      exact ⟨(by have h := HE.out; show Ending.returned (.int .i64 (K : Int)) = _; rw [h]; simp), rfl⟩

end Go.Proofs.Ytmfacacpoajpgac
