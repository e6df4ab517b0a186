import Derived.BigRegion
import Derived.Deep.LoopGhost
import Derived.Test.YtlffdadmgginmaeDoorMA
namespace Go.Proofs.YtlffdadmgginmaeDoor
open Go.RowKit
attribute [local go_sem ↓] Go.wp_at_zero Go.wp_at_succ
set_option linter.unusedVariables false

/-- n codes lie in the block g. -/
structure Codes (w : World) (g n : Nat) (F : Nat → Nat × Nat) : Prop where
  lt : g < w.heap.size
  at0 : ∀ i, i < n → w.cell? ⟨g, i * 2, none⟩ = some (.int .i64 ((F i).1 : Nat))
  at1 : ∀ i, i < n → w.cell? ⟨g, i * 2 + 1, none⟩ = some (.int .u64 ((F i).2 : Nat))
  free : ∀ o, w.frozen? ⟨g, o, none⟩ = false
theorem Codes.grown {w w' : World} {row : Option Nat} {g n : Nat} {F : Nat → Nat × Nat} (h : Codes w g n F) (hg : w.grownBy w' row) (hne : some g ≠ row) : Codes w' g n F := by
  have e := hg.block g h.lt hne
  exact ⟨Nat.lt_of_lt_of_le h.lt hg.size, fun i hi => (World.cell?_of_block (w := w) e).trans (h.at0 i hi), fun i hi => (World.cell?_of_block (w := w) e).trans (h.at1 i hi), fun o => (World.frozen?_of_block (w := w) e).trans (h.free o)⟩
theorem Codes.congr {w : World} {g n : Nat} {F G : Nat → Nat × Nat} (h : Codes w g n F) (e : ∀ i, i < n → F i = G i) : Codes w g n G :=
  ⟨h.lt, fun i hi => by rw [← e i hi]; exact h.at0 i hi, fun i hi => by rw [← e i hi]; exact h.at1 i hi, h.free⟩
theorem Codes.set {w : World} {g n : Nat} {F : Nat → Nat × Nat} (h : Codes w g n F) {k : Nat} (hk : k < n) (a b : Nat) :
    Codes ((w.setCell ⟨g, k * 2, none⟩ (.int .i64 a)).setCell ⟨g, k * 2 + 1, none⟩ (.int .u64 b)) g n (fun i => if i = k then (a, b) else F i) ∧ w.grownBy ((w.setCell ⟨g, k * 2, none⟩ (.int .i64 a)).setCell ⟨g, k * 2 + 1, none⟩ (.int .u64 b)) (some g) := by
  refine ⟨⟨by simpa using h.lt, ?_, ?_, fun o => by rw [World.frozen?_setCell, World.frozen?_setCell]; exact h.free o⟩, grownBy_trans (grownBy_setCell w ⟨g, k * 2, none⟩ _) (grownBy_setCell _ ⟨g, k * 2 + 1, none⟩ _)⟩
  · intro i hi
    by_cases e : i = k
    · subst e
      rw [World.cell?_setCell_other _ _ _ _ (by simp), World.cell?_setCell_same _ _ _ (h.at0 i hi)]
      simp
    · rw [World.cell?_setCell_other _ _ _ _ (by first | (simp; done) | (simp; omega)), World.cell?_setCell_other _ _ _ _ (by first | (simp; done) | (simp; omega)), h.at0 i hi]
      simp [e]
  · intro i hi
    by_cases e : i = k
    · subst e
      rw [World.cell?_setCell_same _ _ _ (u := .int .u64 ((F i).2 : Nat)) (by rw [World.cell?_setCell_other _ _ _ _ (by simp)]; exact h.at1 i hi)]
      simp
    · rw [World.cell?_setCell_other _ _ _ _ (by first | (simp; done) | (simp; omega)), World.cell?_setCell_other _ _ _ _ (by first | (simp; done) | (simp; omega)), h.at1 i hi]
      simp [e]
/-- The code of symbol i. -/
def code (zs : List Int) (i : Nat) : Nat × Nat := if (zs.getD i 0).toNat = 0 then (0, 0) else ((zs.getD i 0).toNat, tr (fst (cnt zs) (zs.getD i 0).toNat + cnt (zs.take i) (zs.getD i 0).toNat) (zs.getD i 0).toNat)
/-- The first k of them. -/
def codeTo (zs : List Int) (k i : Nat) : Nat × Nat := if i < k then code zs i else (0, 0)
/-- The next code of each length, behind k symbols. -/
def nx (zs : List Int) (k l : Nat) : Nat := if l = 0 then 0 else fst (cnt zs) l + cnt (zs.take k) l
/-- Whether there are codes. -/
def okC (zs : List Int) : Bool := okB zs && decide (¬ hk zs = 2)
/-- Codes that came back. -/
def RowH (B : Nat) (w : World) (ao : Option Addr) (n : Nat) (F : Nat → Nat × Nat) : Prop := 0 < n → ∃ g, ao = some ⟨g, 0, none⟩ ∧ B ≤ g ∧ Codes w g n F
theorem RowH.nil (B : Nat) (w : World) (ao : Option Addr) (F : Nat → Nat × Nat) : RowH B w ao 0 F := fun h => by omega
/-- How many came back. -/
def nC (zs : List Int) : Nat := if okC zs then zs.length else 0
def ResH (B : Nat) (w : World) (e : Ending) (zs : List Int) : Prop := ∃ bo bc, e = .returned (.slice bo (nC zs) bc) ∧ RowH B w bo (nC zs) (code zs)
theorem ResH.no (B : Nat) (w : World) (zs : List Int) (bo : Option Addr) (bc : Nat) (h : okC zs = false) : ResH B w (.returned (.slice bo 0 bc)) zs := by
  have hn : nC zs = 0 := by simp [nC, h]
  refine ⟨bo, bc, by rw [hn], ?_⟩
  rw [hn]
  exact RowH.nil _ _ _ _
theorem ResH.yes (B : Nat) (w : World) (zs : List Int) (g bc : Nat) (h : okC zs = true) (hB : B ≤ g) (hc : Codes w g zs.length (code zs)) : ResH B w (.returned (.slice (some ⟨g, 0, none⟩) zs.length bc)) zs := by
  have hn : nC zs = zs.length := by simp [nC, h]
  refine ⟨_, bc, by rw [hn], ?_⟩
  rw [hn]
  exact fun _ => ⟨g, rfl, hB, hc⟩
theorem Tryd.info_hc : (Tryd.prog.info? 104).map (fun i => (i.zero, i.size, i.bytes)) = some (some (.agg #[.int .i64 0, .int .u64 0]), 2, 16) := by kernel_rfl
theorem made_hc (n j : Nat) (h : j < n * 2) : (madeCells (Value.agg #[.int .i64 0, .int .u64 0]).cells (n * 2)).toList[j]? = some (if j % 2 = 0 then .int .i64 0 else .int .u64 0) := by
  have h2 : j % 2 = 0 ∨ j % 2 = 1 := by omega
  simp only [madeCells, Value.cells]
  rcases h2 with h2 | h2 <;> simp [h, h2]
theorem Codes.made {w : World} {B g n cap : Nat} {xs : List Value} (h : w.ownsRow B 104 2 (.slice (some ⟨g, 0, none⟩) n cap) n xs) (hx : ∀ j, j < n * 2 → xs[j]? = some (if j % 2 = 0 then .int .i64 0 else .int .u64 0)) : Codes w g n (fun _ => (0, 0)) := by
  refine ⟨?_, ?_, ?_, fun o => h.frozenAt o⟩
  · rcases h.2 with ⟨h', _⟩ | ⟨g', cap', cur, h', _, hg, _⟩
    · simp at h'
    · simp only [Value.slice.injEq, Option.some.injEq, Addr.mk.injEq, and_true, true_and] at h'
      obtain ⟨rfl, rfl⟩ := h'
      exact (Array.getElem?_eq_some_iff.1 hg).1
  · intro i hi
    rw [h.cellAt (i * 2) (by omega), hx _ (by omega), if_pos (by omega)]
    rfl
  · intro i hi
    rw [h.cellAt (i * 2 + 1) (by omega), hx _ (by omega), if_neg (by omega)]
    rfl
theorem nx_le (zs : List Int) (k l : Nat) (hl : l ≤ 15) (hn : zs.length ≤ 320) : nx zs k l ≤ 20971840 := by
  unfold nx
  split
  · omega
  · have h1 := fst_le (cnt zs) (fun i => Nat.le_trans (cnt_le _ _) hn) l
    have h2 : cnt (zs.take k) l ≤ 320 := Nat.le_trans (cnt_le _ _) (by simp; omega)
    have h3 : 2 ^ l ≤ 32768 := Nat.le_trans (Nat.pow_le_pow_right (by decide) hl) (by decide)
    omega

set_option maxRecDepth 100000 in
set_option maxHeartbeats 6400000 in
theorem icodes_any (ao : Option Addr) (cap : Nat) (zs : List Int) (w : World) (hr : Row64 w ao zs) (hn : zs.length ≤ 1048576) :
    Calls Tryd.prog 69 #[.slice ao zs.length cap] w fun e w' => ResH w.heap.size w' e zs ∧ Below w.heap.size w w' := by
  obtain ⟨i0, hi, hz0, hz1, hz2⟩ := info_parts Tryd.info_hc
  have HC := hideH (countLens_any ao cap zs w hr hn)
  have HR := hideH hr
  clear hr
  go_enter Tryd.func69, Tryd.ntmps69
  go_wp2_with fail
  refine Calls.mono HC.out ?_
  rintro e w1 ⟨⟨L, rfl, hlen, hone, hcnt⟩, hb1⟩
  have hN := Cnts.new w1 150
  have hsz : (Tryd.prog.info? 150).map (·.size) = some L.length := by rw [hlen]; exact Tryd.size_cnts
  have hth : (w1.alloc (.cells #[.int .i64 0, .int .i64 0, .int .i64 0, .int .i64 0, .int .i64 0, .int .i64 0, .int .i64 0, .int .i64 0, .int .i64 0, .int .i64 0, .int .i64 0, .int .i64 0, .int .i64 0, .int .i64 0, .int .i64 0, .int .i64 0] 150)).there w1.heap.size 0 L.length := by rw [hlen]; exact hN.there
  have hrg := World.rangeAt_setCells_same _ w1.heap.size 0 L hth
  have hb2 : Below w.heap.size w ((w1.alloc (.cells #[.int .i64 0, .int .i64 0, .int .i64 0, .int .i64 0, .int .i64 0, .int .i64 0, .int .i64 0, .int .i64 0, .int .i64 0, .int .i64 0, .int .i64 0, .int .i64 0, .int .i64 0, .int .i64 0, .int .i64 0, .int .i64 0] 150)).setCells w1.heap.size 0 L) := (hb1.alloc hb1.size _).grown (grownBy_setCells w1.heap.size L 0 _) (hb1.alloc hb1.size _).size (by intro q e; simp at e; have := hb1.size; omega)
  have HON := hideH (all_oneCell_toArray hone)
  have HB2 := hideH hb2
  have HLN := hideH hlen
  have HCN := hideH hcnt
  have hz1' := hb1.size
  have hw2 : w1.heap.size < ((w1.alloc (.cells #[.int .i64 0, .int .i64 0, .int .i64 0, .int .i64 0, .int .i64 0, .int .i64 0, .int .i64 0, .int .i64 0, .int .i64 0, .int .i64 0, .int .i64 0, .int .i64 0, .int .i64 0, .int .i64 0, .int .i64 0, .int .i64 0] 150)).setCells w1.heap.size 0 L).heap.size := by
    have := (grownBy_setCells w1.heap.size L 0 (w1.alloc (.cells #[.int .i64 0, .int .i64 0, .int .i64 0, .int .i64 0, .int .i64 0, .int .i64 0, .int .i64 0, .int .i64 0, .int .i64 0, .int .i64 0, .int .i64 0, .int .i64 0, .int .i64 0, .int .i64 0, .int .i64 0, .int .i64 0] 150))).size
    simp at this
    omega
  clear hN HC hb1 hb2 hone hcnt hlen
  by_cases hok : okB zs = true
  · have hLc := HCN.out hok
    have hn320 := (okB_ok hok).1
    have HK := hideH (fun W => kindc_any (cnt zs) L W HLN.out (by rw [hLc]; exact cells16_at _) (fun i => Nat.le_trans (cnt_le _ _) hn320))
    have HF := hideH (fun W => firstCodes_any (cnt zs) L W HLN.out (by rw [hLc]; exact cells16_at _) (fun i => Nat.le_trans (cnt_le _ _) hn320))
    have HKH := hideH (kindF_hk hok)
    have HOL := hideH (okB_ok hok).2
    rw [hok]
    clear hLc
    go_upto_region 2 with (refine wpList_store_mid rfl _ _ _ rfl w1.heap.size 0 L.toArray rfl rfl (by simpa using hth) (by simpa using hsz) HON.out ?_)
    generalize (w1.alloc (.cells #[.int .i64 0, .int .i64 0, .int .i64 0, .int .i64 0, .int .i64 0, .int .i64 0, .int .i64 0, .int .i64 0, .int .i64 0, .int .i64 0, .int .i64 0, .int .i64 0, .int .i64 0, .int .i64 0, .int .i64 0, .int .i64 0] 150)).setCells w1.heap.size 0 L = w2 at *
    have hcl : ∀ i, i < 16 → w2.cell? ⟨w1.heap.size, 0 + i, none⟩ = some (.int .i64 (cnt zs i : Nat)) := fun i hi => hrg i _ (by rw [HCN.out hok]; exact cells16_at _ i hi)
    have c0 : w2.cell? ⟨w1.heap.size, 0, none⟩ = some (.int .i64 (cnt zs 0 : Nat)) := by have := hcl 0 (by omega); simpa using this
    have c1 : w2.cell? ⟨w1.heap.size, 1, none⟩ = some (.int .i64 (cnt zs 1 : Nat)) := by have := hcl 1 (by omega); simpa using this
    have c2 : w2.cell? ⟨w1.heap.size, 2, none⟩ = some (.int .i64 (cnt zs 2 : Nat)) := by have := hcl 2 (by omega); simpa using this
    have c3 : w2.cell? ⟨w1.heap.size, 3, none⟩ = some (.int .i64 (cnt zs 3 : Nat)) := by have := hcl 3 (by omega); simpa using this
    have c4 : w2.cell? ⟨w1.heap.size, 4, none⟩ = some (.int .i64 (cnt zs 4 : Nat)) := by have := hcl 4 (by omega); simpa using this
    have c5 : w2.cell? ⟨w1.heap.size, 5, none⟩ = some (.int .i64 (cnt zs 5 : Nat)) := by have := hcl 5 (by omega); simpa using this
    have c6 : w2.cell? ⟨w1.heap.size, 6, none⟩ = some (.int .i64 (cnt zs 6 : Nat)) := by have := hcl 6 (by omega); simpa using this
    have c7 : w2.cell? ⟨w1.heap.size, 7, none⟩ = some (.int .i64 (cnt zs 7 : Nat)) := by have := hcl 7 (by omega); simpa using this
    have c8 : w2.cell? ⟨w1.heap.size, 8, none⟩ = some (.int .i64 (cnt zs 8 : Nat)) := by have := hcl 8 (by omega); simpa using this
    have c9 : w2.cell? ⟨w1.heap.size, 9, none⟩ = some (.int .i64 (cnt zs 9 : Nat)) := by have := hcl 9 (by omega); simpa using this
    have c10 : w2.cell? ⟨w1.heap.size, 10, none⟩ = some (.int .i64 (cnt zs 10 : Nat)) := by have := hcl 10 (by omega); simpa using this
    have c11 : w2.cell? ⟨w1.heap.size, 11, none⟩ = some (.int .i64 (cnt zs 11 : Nat)) := by have := hcl 11 (by omega); simpa using this
    have c12 : w2.cell? ⟨w1.heap.size, 12, none⟩ = some (.int .i64 (cnt zs 12 : Nat)) := by have := hcl 12 (by omega); simpa using this
    have c13 : w2.cell? ⟨w1.heap.size, 13, none⟩ = some (.int .i64 (cnt zs 13 : Nat)) := by have := hcl 13 (by omega); simpa using this
    have c14 : w2.cell? ⟨w1.heap.size, 14, none⟩ = some (.int .i64 (cnt zs 14 : Nat)) := by have := hcl 14 (by omega); simpa using this
    have c15 : w2.cell? ⟨w1.heap.size, 15, none⟩ = some (.int .i64 (cnt zs 15 : Nat)) := by have := hcl 15 (by omega); simpa using this
    have HKE : Hid (∀ W : World, Calls Tryd.prog 90 #[.agg #[.int .i64 (cnt zs 0 : Nat), .int .i64 (cnt zs 1 : Nat), .int .i64 (cnt zs 2 : Nat), .int .i64 (cnt zs 3 : Nat), .int .i64 (cnt zs 4 : Nat), .int .i64 (cnt zs 5 : Nat), .int .i64 (cnt zs 6 : Nat), .int .i64 (cnt zs 7 : Nat), .int .i64 (cnt zs 8 : Nat), .int .i64 (cnt zs 9 : Nat), .int .i64 (cnt zs 10 : Nat), .int .i64 (cnt zs 11 : Nat), .int .i64 (cnt zs 12 : Nat), .int .i64 (cnt zs 13 : Nat), .int .i64 (cnt zs 14 : Nat), .int .i64 (cnt zs 15 : Nat)]] W fun e w' => e = .returned (.int .i64 (kindF (sumTo (cnt zs) 15) (sumTo (fun l => cnt zs l * 2 ^ (15 - l)) 15) (cnt zs 1))) ∧ Below W.heap.size W w') := by
      intro W
      have h := HK.out W
      rw [HCN.out hok] at h
      exact h
    clear hth hcl
    go_wp2_with fail
    refine Calls.mono (HKE.out _) ?_
    rintro e w3 ⟨rfl, hb3⟩
    rw [HKH.out]
    have hrg3 : w3.rangeAt w1.heap.size 0 L := fun j v hv => (hb3.cell (p := ⟨w1.heap.size, 0 + j, none⟩) hw2).trans (hrg j v hv)
    have HB3 := hideH (HB2.out.trans (hb3.mono HB2.out.size))
    have hz3 : w1.heap.size < w3.heap.size := by have := hb3.size; omega
    clear hb3 hrg HB2 HK HKH hw2 HKE c0 c1 c2 c3 c4 c5 c6 c7 c8 c9 c10 c11 c12 c13 c14 c15
    by_cases hk2 : hk zs = 2
    · have hoc : okC zs = false := by simp [okC, hk2]
      have hkb : (hk zs == 2) = true := by simp [hk2]
      have HOC := hideH hoc
      clear hk2 hoc
      go_wp2_with fail
      go_ret
      exact ⟨ResH.no _ _ _ _ _ HOC.out, HB3.out⟩
    · have hoc : okC zs = true := by simp [okC, hok, hk2]
      have hkb : (hk zs == 2) = false := by simp [hk2]
      have HOC := hideH hoc
      clear hk2 hoc
      have hm : zs.length ≤ maxLen := by unfold maxLen; omega
      go_wp2_with (at_make; refine wpList_make_full _ rfl _ _ 83 rfl w3.heap.size 104 i0 (.agg #[.int .i64 0, .int .u64 0]) 2 Tryd.underlying83 hi hz0 hz1 _ _ _ _ zs.length rfl rfl rfl rfl (by rw [hz2]; omega) hm (Nat.le_refl _) ?_)
      intro w4 hown hgrow
      have hCd := Codes.made hown (fun j hj => made_hc _ j hj)
      have hb4 : Below w3.heap.size w3 w4 := below_of_grownBy hgrow
      have hrg4 : w4.rangeAt w1.heap.size 0 L := fun j v hv => (hb4.cell (p := ⟨w1.heap.size, 0 + j, none⟩) hz3).trans (hrg3 j v hv)
      have HB4 := hideH (HB3.out.trans (hb4.mono HB3.out.size))
      have HCD := hideH hCd
      have hz4 := hCd.lt
      have hzw := HB3.out.size
      clear hown hgrow hb4 hrg3 HB3 hCd
      go_wp2_with (refine wpList_load_mid rfl _ _ rfl _ _ rfl L _ hrg4 Tryd.underlying150 rfl hsz ?_)
      refine Calls.mono (HF.out _) ?_
      rintro e w5 ⟨rfl, hb5⟩
      obtain ⟨K, hK⟩ : ∃ K, cells16u (fst (cnt zs)) = K := ⟨_, rfl⟩
      have hoK := cells16u_one (fst (cnt zs))
      have hlK := cells16u_len (fst (cnt zs))
      rw [hK] at hoK hlK ⊢
      have hNU := CntU.new w5 153
      have hszK : (Tryd.prog.info? 153).map (·.size) = some K.length := by rw [hlK]; exact Tryd.size_cntu
      have hthK : (w5.alloc (.cells #[.int .u64 0, .int .u64 0, .int .u64 0, .int .u64 0, .int .u64 0, .int .u64 0, .int .u64 0, .int .u64 0, .int .u64 0, .int .u64 0, .int .u64 0, .int .u64 0, .int .u64 0, .int .u64 0, .int .u64 0, .int .u64 0] 153)).there w5.heap.size 0 K.length := by rw [hlK]; exact hNU.there
      have hrK := World.rangeAt_setCells_same _ w5.heap.size 0 K hthK
      have hgK := grownBy_setCells w5.heap.size K 0 (w5.alloc (.cells #[.int .u64 0, .int .u64 0, .int .u64 0, .int .u64 0, .int .u64 0, .int .u64 0, .int .u64 0, .int .u64 0, .int .u64 0, .int .u64 0, .int .u64 0, .int .u64 0, .int .u64 0, .int .u64 0, .int .u64 0, .int .u64 0] 153))
      have HONK := hideH (all_oneCell_toArray hoK)
      have hfz : ∀ i, ((w5.alloc (.cells #[.int .u64 0, .int .u64 0, .int .u64 0, .int .u64 0, .int .u64 0, .int .u64 0, .int .u64 0, .int .u64 0, .int .u64 0, .int .u64 0, .int .u64 0, .int .u64 0, .int .u64 0, .int .u64 0, .int .u64 0, .int .u64 0] 153)).setCells w5.heap.size 0 K).frozen? ⟨w5.heap.size, i, none⟩ = false := fun i => by rw [World.frozen?_setCells]; exact hNU.free i
      have hU6 : CntU ((w5.alloc (.cells #[.int .u64 0, .int .u64 0, .int .u64 0, .int .u64 0, .int .u64 0, .int .u64 0, .int .u64 0, .int .u64 0, .int .u64 0, .int .u64 0, .int .u64 0, .int .u64 0, .int .u64 0, .int .u64 0, .int .u64 0, .int .u64 0] 153)).setCells w5.heap.size 0 K) w5.heap.size (nx zs 0) := ⟨fun i hi => by
        have h1 := hrK i _ (by rw [← hK]; exact cells16u_at _ i hi)
        rw [Nat.zero_add] at h1
        rw [h1]
        congr 2
        unfold nx
        by_cases h0 : i = 0
        · subst h0; rfl
        · rw [if_neg h0]; simp [cnt], hfz⟩
      have hC6 : Codes ((w5.alloc (.cells #[.int .u64 0, .int .u64 0, .int .u64 0, .int .u64 0, .int .u64 0, .int .u64 0, .int .u64 0, .int .u64 0, .int .u64 0, .int .u64 0, .int .u64 0, .int .u64 0, .int .u64 0, .int .u64 0, .int .u64 0, .int .u64 0] 153)).setCells w5.heap.size 0 K) w3.heap.size zs.length (codeTo zs 0) := (((HCD.out.grown (grownBy_of_below hb5 none) (by simp)).grown (World.grownBy_alloc _ _ none) (by simp)).grown hgK (by have := hb5.size; simp; omega)).congr (fun i _ => by simp [codeTo])
      have hB6 : Below w.heap.size w ((w5.alloc (.cells #[.int .u64 0, .int .u64 0, .int .u64 0, .int .u64 0, .int .u64 0, .int .u64 0, .int .u64 0, .int .u64 0, .int .u64 0, .int .u64 0, .int .u64 0, .int .u64 0, .int .u64 0, .int .u64 0, .int .u64 0, .int .u64 0] 153)).setCells w5.heap.size 0 K) := by
        have h1 := HB4.out.trans (hb5.mono HB4.out.size)
        have h2 := h1.alloc h1.size (.cells #[.int .u64 0, .int .u64 0, .int .u64 0, .int .u64 0, .int .u64 0, .int .u64 0, .int .u64 0, .int .u64 0, .int .u64 0, .int .u64 0, .int .u64 0, .int .u64 0, .int .u64 0, .int .u64 0, .int .u64 0, .int .u64 0] 153)
        exact h2.grown hgK h2.size (by intro q e; simp at e; have := h1.size; omega)
      have hz5 : w3.heap.size < w5.heap.size := by have := hb5.size; omega
      have HU6 := hideH hU6
      have HC6 := hideH hC6
      have HB6 := hideH hB6
      clear hb5 HB4 HCD hNU hrK hgK hfz hU6 hC6 hB6 hoK hlK hK HF hrg4
      go_upto_region 6 with (refine wpList_store_mid rfl _ _ _ rfl w5.heap.size 0 K.toArray rfl rfl (by simpa using hthK) (by simpa using hszK) HONK.out ?_)
      generalize ((w5.alloc (.cells #[.int .u64 0, .int .u64 0, .int .u64 0, .int .u64 0, .int .u64 0, .int .u64 0, .int .u64 0, .int .u64 0, .int .u64 0, .int .u64 0, .int .u64 0, .int .u64 0, .int .u64 0, .int .u64 0, .int .u64 0, .int .u64 0] 153)).setCells w5.heap.size 0 K) = w6 at *
      clear hthK hszK HONK
      go_wp2_with fail
      go_loopw [28] (fun i wr => ∃ k : Nat, k ≤ zs.length ∧ i = .int .i64 k ∧ CntU wr w5.heap.size (nx zs k) ∧ Codes wr w3.heap.size zs.length (codeTo zs k) ∧ Below w.heap.size w wr) (fun i _ => zs.length - (intOf i).toNat)
      case atStart => exact ⟨0, Nat.zero_le _, rfl, HU6.out, HC6.out, HB6.out⟩
      case round =>
        clear HU6 HC6 HB6
        obtain ⟨k, hk, rfl, hU, hCd, hB⟩ := hrel
        by_cases hlt : k < zs.length
        · obtain ⟨b, off, rfl, hc⟩ := HR.out.at hlt
          have hb : b < w.heap.size := World.block_lt_of_cell? w _ (hc k hlt)
          have hcx : wr.cell? ⟨b, off + k, none⟩ = some (.int .i64 (zs.getD k 0)) := (hB.cell (by exact hb)).trans (hc k hlt)
          have hgd : zs[k] = zs.getD k 0 := by simp [List.getD, hlt]
          have hx := HOL.out (zs[k]) (List.getElem_mem hlt)
          rw [hgd] at hx
          obtain ⟨l, hl⟩ : ∃ l : Nat, zs.getD k 0 = l := ⟨(zs.getD k 0).toNat, by omega⟩
          have hcnt : ∀ i, cnt (zs.take (k + 1)) i = cnt (zs.take k) i + if l = i then 1 else 0 := by
            intro i
            rw [take_snoc zs k hlt, cnt_app, hl]
            simp only [Int.ofNat_inj]
          have hcode : code zs k = if l = 0 then (0, 0) else (l, tr (fst (cnt zs) l + cnt (zs.take k) l) l) := by
            unfold code
            rw [hl, Int.toNat_natCast]
          rw [hl] at hcx hx
          have hl15 : l ≤ 15 := by omega
          have HCNT := hideH hcnt
          have HCODE := hideH hcode
          clear hc hgd hl hcnt hcode
          by_cases hl0 : l = 0
          · subst hl0
            have HU2 := hideH (hU.congr (g := nx zs (k + 1)) (fun i => by
              unfold nx
              by_cases h0 : i = 0
              · rw [if_pos h0, if_pos h0]
              · rw [if_neg h0, if_neg h0, HCNT.out i, if_neg (by omega)]; rfl))
            have HC2 := hideH (hCd.congr (G := codeTo zs (k + 1)) (fun i _ => by
              unfold codeTo
              by_cases h1 : i < k
              · rw [if_pos h1, if_pos (by omega)]
              · rw [if_neg h1]
                by_cases h2 : i = k
                · subst h2; rw [if_pos (by omega), HCODE.out]; rfl
                · rw [if_neg (by omega)]))
            have HBx := hideH hB
            clear hU hCd hB HCNT HCODE
            go_wp2_with fail
            go_roundw
            case rel => exact ⟨k + 1, by omega, by go_num, HU2.out, HC2.out, HBx.out⟩
            case measure => simp [intOf]; omega
          · have hX := nx_le zs k l hl15 hn320
            have hXe : nx zs k l = fst (cnt zs) l + cnt (zs.take k) l := if_neg hl0
            have cu := hU.at_ l (by omega)
            have fu := hU.free l
            have c0 := hCd.at0 k hlt
            have c1 := hCd.at1 k hlt
            have f0 := hCd.free (k * 2)
            have f1 := hCd.free (k * 2 + 1)
            have HT := hideH (fun W => turnRound_any (nx zs k l) l (by omega) (by omega) hl15 W)
            obtain ⟨hC2, hg2⟩ := hCd.set hlt l (tr (nx zs k l) l)
            have hU2 := hU.grown hg2 (by simp; omega)
            have hU3 := (hU2.set (l := l) (by omega) (nx zs k l + 1)).congr (g := nx zs (k + 1)) (fun i => by
              unfold nx
              by_cases h1 : i = l
              · rw [if_pos h1, h1, if_neg hl0, if_neg hl0, HCNT.out l, if_pos rfl]; omega
              · rw [if_neg h1]
                by_cases h0 : i = 0
                · rw [if_pos h0, if_pos h0]
                · rw [if_neg h0, if_neg h0, HCNT.out i, if_neg (by omega)]; rfl)
            have hg3 : ((wr.setCell ⟨w3.heap.size, k * 2, none⟩ (.int .i64 l)).setCell ⟨w3.heap.size, k * 2 + 1, none⟩ (.int .u64 (tr (nx zs k l) l : Nat))).grownBy (((wr.setCell ⟨w3.heap.size, k * 2, none⟩ (.int .i64 l)).setCell ⟨w3.heap.size, k * 2 + 1, none⟩ (.int .u64 (tr (nx zs k l) l : Nat))).setCell ⟨w5.heap.size, l, none⟩ (.int .u64 ((nx zs k l + 1 : Nat) : Int))) (some w5.heap.size) := grownBy_setCell _ _ _
            have hC3 := (hC2.grown hg3 (by simp; omega)).congr (G := codeTo zs (k + 1)) (fun i _ => by
              unfold codeTo
              by_cases h2 : i = k
              · subst h2; rw [if_pos rfl, if_pos (by omega), HCODE.out, if_neg hl0, ← hXe]
              · rw [if_neg h2]
                by_cases h1 : i < k
                · rw [if_pos h1, if_pos (by omega)]
                · rw [if_neg h1, if_neg (by omega)])
            have hB2 := hB.grown hg2 hB.size (by intro q e; simp at e; omega)
            have hB3 := hB2.grown hg3 hB2.size (by intro q e; simp at e; omega)
            obtain ⟨X, hXX⟩ : ∃ X, nx zs k l = X := ⟨_, rfl⟩
            rw [hXX] at cu HT hU3 hC3 hB3 hX
            obtain ⟨Y, hY⟩ : ∃ Y, tr X l = Y := ⟨_, rfl⟩
            rw [hY] at HT hU3 hC3 hB3
            have cu2 : ((wr.setCell ⟨w3.heap.size, k * 2, none⟩ (.int .i64 l)).setCell ⟨w3.heap.size, k * 2 + 1, none⟩ (.int .u64 Y)).cell? ⟨w5.heap.size, l, none⟩ = some (.int .u64 X) := by
              rw [World.cell?_setCell_other _ _ _ _ (by first | (simp; done) | (simp; omega)), World.cell?_setCell_other _ _ _ _ (by first | (simp; done) | (simp; omega))]; exact cu
            simp only [Int.natCast_add] at hU3 hC3 hB3
            have HU3 := hideH hU3
            have HC3 := hideH hC3
            have HB3' := hideH hB3
            have hkl : (k : Int) < (zs.length : Int) := by omega
            have hl16 : (l : Int) < 16 := by omega
            have hne : w5.heap.size ≠ w3.heap.size := by omega
            generalize (codeTo zs k k).1 = o0 at *
            generalize (codeTo zs k k).2 = o1 at *
            clear hU hCd hB hC2 hg2 hU2 hU3 hg3 hC3 hB2 hB3 hXe hXX hY HCNT HCODE
            go_wp2_with fail
            refine Calls.mono (HT.out _) ?_
            rintro e w7 ⟨rfl, rfl⟩
            go_wp2_with fail
            go_roundw
            case rel => exact ⟨k + 1, by omega, by go_num, HU3.out, HC3.out, HB3'.out⟩
            case measure => simp [intOf]; omega
        · have e : k = zs.length := by omega
          subst e
          have hfin := hCd.congr (G := code zs) (fun i hi => if_pos hi)
          go_wp2_with fail
          go_ret
          exact ⟨ResH.yes _ _ _ _ _ HOC.out (by omega) hfin, hB⟩
  · have hok : okB zs = false := by simpa using hok
    have hoc : okC zs = false := by simp [okC, hok]
    rw [hok]
    have HOC := hideH hoc
    clear hoc
    go_wp2_with (first | (refine wpList_store_mid rfl _ _ _ rfl w1.heap.size 0 L.toArray rfl rfl (by simpa using hth) (by simpa using hsz) HON.out ?_) | (refine wpList_load_mid rfl _ _ rfl _ _ rfl L _ hrg Tryd.underlying150 rfl hsz ?_))
    go_ret
    exact ⟨ResH.no _ _ _ _ _ HOC.out, HB2.out⟩

end Go.Proofs.YtlffdadmgginmaeDoor
namespace Go.Proofs.YtlffdadmgginmaeDoor
open Go.RowKit
attribute [local go_sem ↓] Go.wp_at_zero Go.wp_at_succ
set_option linter.unusedVariables false

section
variable {P : Program} (w : World)
/-- append of elements of many cells, which lie anywhere, onto a row of the call's own. -/
theorem wpList_append_cells {ops : Array Oper} {rest : List Oper} {o : Oper} {a : Act} {Q : Exit → Act → World → Prop} (hgd : o.guard = none) (s x : Operand) (t : TypeId)
    (ho : o.op = .call { callee := .builtin .append, args := #[s, x], argTypes := #[t, t] })
    (base : Nat) (e : TypeId) (i : TypeInfo) (z : Value) (size bytes : Nat) (ht : P.underlying t = some (.slice e)) (hi : P.info? e = some i) (hz : i.zero = some z)
    (hsize : i.size = size) (hby : i.bytes = bytes) (hzs : z.cells.size = size) (hsz : 0 < size)
    (v : Value) (n : Nat) (xs : List Value) (hs : a.eval s = v) (hown : w.ownsRow base e size v n xs) (ad : Addr) (m c : Nat) (news : List Value) (hx : a.eval x = .slice (some ad) m c)
    (hl : news.length = m * size) (hnews : ∀ j u, news[j]? = some u → w.cell? (ad.add j) = some u) (h1 : ∀ u ∈ news, u.oneCell' = true)
    (h63 : n + m ≤ maxLen) (hbytes : (n + m) * bytes ≤ 140737488355328) (hbase : base ≤ w.heap.size)
    (h : ∀ v' w', w'.ownsRow base e size v' (n + m) (xs ++ news) → w.grownBy w' v.ownBlock → wpList P ops Q rest (a.put o.dst v') w') : wpList P ops Q (o :: rest) a w := by
  refine wpList_plain hgd fun K hK => ?_
  obtain ⟨v', w', hr, h2, h3, _⟩ := run_append_own_at (P := P) w base t o.type e i z size bytes ht hi hz hsize hby hzs hsz v n xs hown ad m c news hl hnews h1 h63 hbytes hbase
  unfold Oper.wp execOp
  simp only [ho, resolve, invoke, builtin, Sem.run_bind, Sem.run_pure, Result.andThen_ok, List.map_toArray, List.map_cons, List.map_nil, hs, hx, hr]
  exact hK _ _ (h v' w' h2 h3)
end

/-- The cells of k zero codes. -/
def zc : Nat → List Value
  | 0 => []
  | k + 1 => zc k ++ [.int .i64 0, .int .u64 0]
theorem zc_len (k : Nat) : (zc k).length = k * 2 := by
  induction k with
  | zero => rfl
  | succ k ih => simp [zc, ih]; omega
theorem zc_at (k j : Nat) (h : j < k * 2) : (zc k)[j]? = some (if j % 2 = 0 then .int .i64 0 else .int .u64 0) := by
  induction k with
  | zero => omega
  | succ k ih =>
    have hl := zc_len k
    rw [zc]
    by_cases h1 : j < k * 2
    · rw [List.getElem?_append_left (by omega)]; exact ih h1
    · rw [List.getElem?_append_right (by omega), hl]
      have h2 : j = k * 2 ∨ j = k * 2 + 1 := by omega
      rcases h2 with rfl | rfl
      · rw [Nat.sub_self, if_pos (by omega)]; rfl
      · rw [show k * 2 + 1 - k * 2 = 1 by omega, if_neg (by omega)]; rfl

/-- What the outer loop has made behind the lengths below l + 1, and of that length the first i. -/
def part (zs : List Int) (l i m : Nat) : Nat × Nat := if (zs.getD m 0).toNat < l ∨ ((zs.getD m 0).toNat = l ∧ m < i) then code zs m else (0, 0)
theorem code_zero {zs : List Int} {m : Nat} (h : (zs.getD m 0).toNat = 0) : code zs m = (0, 0) := by rw [code, if_pos h]
/-- The code behind all symbols of length j. -/
def endc (zs : List Int) (j : Nat) : Nat := if j = 0 then 0 else fst (cnt zs) j + cnt zs j
theorem endc_next (zs : List Int) (j : Nat) : 2 * endc zs j = fst (cnt zs) (j + 1) := by
  unfold endc
  cases j with
  | zero => rfl
  | succ j => rw [if_neg (by omega)]; rfl

theorem endc_le (zs : List Int) (j : Nat) (hj : j ≤ 15) (hn : zs.length ≤ 320) : endc zs j ≤ 20971840 := by
  unfold endc
  split
  · omega
  · have h1 := fst_le (cnt zs) (fun i => Nat.le_trans (cnt_le _ _) hn) j
    have h2 : cnt zs j ≤ 320 := Nat.le_trans (cnt_le _ _) hn
    have h3 : 2 ^ j ≤ 32768 := Nat.le_trans (Nat.pow_le_pow_right (by decide) hj) (by decide)
    omega

set_option maxRecDepth 100000 in
set_option maxHeartbeats 6400000 in
theorem scodes_any (ao : Option Addr) (cap : Nat) (zs : List Int) (w : World) (hr : Row64 w ao zs) (hn : zs.length ≤ 1048576) :
    Calls Tryd.prog 46 #[.slice ao zs.length cap] w fun e w' => ResH w.heap.size w' e zs ∧ Below w.heap.size w w' := by
  obtain ⟨i0, hi, hz0, hz1, hz2⟩ := info_parts Tryd.info_hc
  have hb0 : Below w.heap.size w (w.alloc (.cells #[] 104)) := (Below.refl _ _).alloc (Nat.le_refl _) _
  have HS := hideH (skind_any ao cap zs _ (hr.below hb0) hn)
  have HR := hideH hr
  have HB0 := hideH hb0
  have ho0 : (w.alloc (.cells #[] 104)).ownsRow w.heap.size 104 2 (.slice (some ⟨w.heap.size, 0, none⟩) 0 0) 0 [] := World.ownsRow_lit w #[] 0 (Nat.le_refl _) (by unfold maxLen; omega) rfl
  have HO0 := hideH ho0
  clear hr hb0 ho0
  go_enter Tryd.func46, Tryd.ntmps46
  go_wp2_with fail
  refine Calls.mono HS.out ?_
  rintro e w1 ⟨rfl, q, rfl⟩
  have HB1 := hideH (HB0.out.trans (below_drewN' _ _ q))
  have HO1 : Hid (((w.alloc (.cells #[] 104)).drewN q).ownsRow w.heap.size 104 2 (.slice (some ⟨w.heap.size, 0, none⟩) 0 0) 0 []) := HO0.out
  generalize (w.alloc (.cells #[] 104)).drewN q = w1 at *
  clear HS HB0 HO0
  by_cases hok : okB zs = true
  · have hk0 : ¬ hk zs = 0 := by
      rw [hk, hok, if_pos rfl, hkind]
      repeat' split
      all_goals omega
    have hk0b : (hk zs == 0) = false := by simp [hk0]
    by_cases hk2 : hk zs = 2
    · have HOC : Hid (okC zs = false) := by show _ = _; simp [okC, hk2]
      have hk2b : (hk zs == 2) = true := by simp [hk2]
      clear hk2 hk0
      go_wp2_with fail
      go_ret
      exact ⟨ResH.no _ _ _ _ _ HOC.out, HB1.out⟩
    · have HOC : Hid (okC zs = true) := by show _ = _; simp [okC, hok, hk2]
      have hk2b : (hk zs == 2) = false := by simp [hk2]
      have HOL := hideH (okB_ok hok).2
      have hn320 := (okB_ok hok).1
      clear hk2 hk0
      go_wp2_with fail
      go_loopw [3, 5] (fun v i wr => ∃ (k g c : Nat), k ≤ zs.length ∧ i = .int .i64 k ∧ v = .slice (some ⟨g, 0, none⟩) k c ∧ wr.ownsRow w.heap.size 104 2 (.slice (some ⟨g, 0, none⟩) k c) k (zc k) ∧ Below w.heap.size w wr) (fun _ i _ => zs.length - (intOf i).toNat)
      case atStart => exact ⟨0, w.heap.size, 0, Nat.zero_le _, rfl, rfl, HO1.out, HB1.out⟩
      case round =>
        clear HO1 HB1
        obtain ⟨k, g, c, hk, rfl, rfl, ho, hB⟩ := hrel
        by_cases hlt : k < zs.length
        · have hball : Below wr.heap.size wr (wr.alloc (.cells #[.int .i64 0, .int .u64 0] 104)) := (Below.refl _ _).alloc (Nat.le_refl _) _
          have hgw : g < wr.heap.size := (Codes.made ho (zc_at k)).lt
          have HO2 := hideH (World.ownsRow.kept ho (grownBy_of_below hball none) (.inr (by simp [Value.ownBlock])))
          have HN : Hid (∀ j u, ([Value.int .i64 0, Value.int .u64 0] : List Value)[j]? = some u → (wr.alloc (.cells #[.int .i64 0, .int .u64 0] 104)).cell? ((⟨wr.heap.size, 0, none⟩ : Addr).add j) = some u) := by
            intro j u hu
            have hj : j = 0 ∨ j = 1 := by
              have := (List.getElem?_eq_some_iff.1 hu).1
              simp at this; omega
            rw [Addr.add_lit]
            rcases hj with rfl | rfl
            · simp at hu; subst hu; simp [go_sem]
            · simp at hu; subst hu; simp [go_sem]
          have HB2 := hideH (hB.alloc hB.size (.cells #[.int .i64 0, .int .u64 0] 104))
          have hbw := hB.size
          have hgB : w.heap.size ≤ g := by
            rcases ho.2 with ⟨h', _⟩ | ⟨g', cap', cur, h', hb, _⟩
            · simp at h'
            · simp only [Value.slice.injEq, Option.some.injEq, Addr.mk.injEq, and_true, true_and] at h'
              obtain ⟨rfl, rfl⟩ := h'
              exact hb
          clear hball ho hB
          go_wp2_with (at_builtin; refine wpList_append_cells _ rfl _ _ 83 rfl w.heap.size 104 i0 (.agg #[.int .i64 0, .int .u64 0]) 2 16 Tryd.underlying83 hi hz0 hz1 hz2 rfl (by decide) (.slice (some ⟨g, 0, none⟩) k c) k (zc k) rfl HO2.out ⟨wr.heap.size, 0, none⟩ 1 1 [.int .i64 0, .int .u64 0] rfl rfl HN.out (by intro u hu; simp at hu; rcases hu with rfl | rfl <;> rfl) (by unfold maxLen; omega) (by omega) (by simp; omega) ?_)
          intro v4 w4 hown hgrow
          have hown' : w4.ownsRow w.heap.size 104 2 v4 (k + 1) (zc (k + 1)) := hown
          obtain ⟨g4, c4, e4⟩ : ∃ g4 c4, v4 = .slice (some ⟨g4, 0, none⟩) (k + 1) c4 := by
            rcases hown'.2 with ⟨_, h0⟩ | ⟨g', cap', cur, h', _⟩
            · omega
            · exact ⟨g', cap', h'⟩
          rw [e4] at hown' ⊢
          have hb4 := HB2.out.grown hgrow HB2.out.size (by intro t e; simp [Value.ownBlock] at e; omega)
          clear hown hgrow e4 HO2 HN HB2
          go_wp2_with fail
          go_roundw
          case rel => exact ⟨k + 1, g4, c4, by omega, by go_num, by go_num, hown', hb4⟩
          case measure => simp [intOf]; omega
        · have e : k = zs.length := by omega
          subst e
          have hC0 := (Codes.made ho (zc_at zs.length)).congr (G := part zs 1 0) (fun m _ => by
            unfold part
            split
            · rename_i h; rw [code_zero (by omega)]
            · rfl)
          have hgB : w.heap.size ≤ g := by
            rcases ho.2 with ⟨h', _⟩ | ⟨g', cap', cur, h', hb, _⟩
            · simp at h'
            · simp only [Value.slice.injEq, Option.some.injEq, Addr.mk.injEq, and_true, true_and] at h'
              obtain ⟨rfl, rfl⟩ := h'
              exact hb
          have HCx := hideH hC0
          have HBx := hideH hB
          clear ho hC0 hB
          go_wp2_with fail
          go_loopw [6, 7] (fun cd l wx => ∃ (j E : Nat), j ≤ 15 ∧ l = .int .i64 ((j + 1 : Nat) : Int) ∧ cd = .int .i64 E ∧ Hid (E = endc zs j) ∧ Codes wx g zs.length (part zs (j + 1) 0) ∧ Below w.heap.size w wx) (fun _ l _ => 16 - (intOf l).toNat)
          case atStart => exact ⟨0, 0, by omega, rfl, rfl, (rfl : 0 = endc zs 0), HCx.out, HBx.out⟩
          case round =>
            clear HCx HBx
            obtain ⟨j, E, hj, rfl, rfl, HE, hCd, hB⟩ := hrel
            by_cases hjl : j < 15
            · have hE1 : E ≤ 20971840 := by rw [HE.out]; exact endc_le zs j hj hn320
              obtain ⟨lv, hlv⟩ : ∃ lv, j + 1 = lv := ⟨_, rfl⟩
              have hE2 : 2 * E = fst (cnt zs) lv := by rw [HE.out, endc_next, hlv]
              have hlvi : ((j + 1 : Nat) : Int) = (lv : Int) := by omega
              rw [hlvi]
              rw [hlv] at hCd
              have HLV := hideH hlv
              have HE2 := hideH hE2
              have hlv0 : 1 ≤ lv := by omega
              have hlv1 : lv ≤ 15 := by omega
              have dlv : decide ((lv : Int) ≤ 15) = true := decide_eq_true (by omega)
              have HCx := hideH hCd
              have HBx := hideH hB
              clear hlvi hlv hE2 hCd hB
              go_wp2_with fail
              go_loopw [6, 8] (fun cd i wy => ∃ (k X : Nat), k ≤ zs.length ∧ i = .int .i64 k ∧ cd = .int .i64 X ∧ Hid (X = fst (cnt zs) lv + cnt (zs.take k) lv) ∧ Codes wy g zs.length (part zs lv k) ∧ Below w.heap.size w wy) (fun _ i _ => zs.length - (intOf i).toNat)
              case atStart => exact ⟨0, 2 * E, Nat.zero_le _, rfl, by go_num, (by rw [HE2.out]; rfl : 2 * E = fst (cnt zs) lv + cnt (zs.take 0) lv), HCx.out, HBx.out⟩
              case round =>
                clear HCx HBx
                obtain ⟨k, X, hk, rfl, rfl, HX, hCd, hB⟩ := hrel
                have hX1 : X ≤ 20971840 := by
                  have h1 := nx_le zs k lv hlv1 hn320
                  rw [nx, if_neg (by omega), ← HX.out] at h1
                  exact h1
                by_cases hlt : k < zs.length
                · obtain ⟨b, off, rfl, hc⟩ := HR.out.at hlt
                  have hb : b < w.heap.size := World.block_lt_of_cell? w _ (hc k hlt)
                  have hcx : wr.cell? ⟨b, off + k, none⟩ = some (.int .i64 (zs.getD k 0)) := (hB.cell (by exact hb)).trans (hc k hlt)
                  have hgd : zs[k] = zs.getD k 0 := by simp [List.getD, hlt]
                  have hx := HOL.out (zs[k]) (List.getElem_mem hlt)
                  rw [hgd] at hx
                  obtain ⟨l, hl⟩ : ∃ l : Nat, zs.getD k 0 = l := ⟨(zs.getD k 0).toNat, by omega⟩
                  have hln : (zs.getD k 0).toNat = l := by rw [hl]; rfl
                  have hcnt : cnt (zs.take (k + 1)) lv = cnt (zs.take k) lv + if l = lv then 1 else 0 := by
                    rw [take_snoc zs k hlt, cnt_app, hl]
                    simp only [Int.ofNat_inj]
                  have HCNT := hideH hcnt
                  have HLN := hideH hln
                  rw [hl] at hcx hx
                  clear hc hgd hl hcnt hln
                  by_cases hll : l = lv
                  · rw [hll] at hcx
                    have hLN2 := HLN.out
                    rw [hll] at hLN2
                    have hCN2 := HCNT.out
                    rw [if_pos hll] at hCN2
                    clear HLN HCNT hll hx l
                    have HLN := hideH hLN2
                    have HCNT := hideH hCN2
                    clear hLN2 hCN2
                    have HT := hideH (fun W => l3Turn_any X lv (by omega) hlv1 W)
                    obtain ⟨hC2, hg2⟩ := hCd.set hlt lv (tr X lv)
                    have hC3 := hC2.congr (G := part zs lv (k + 1)) (fun m _ => by
                      unfold part
                      by_cases h1 : m = k
                      · subst h1
                        rw [if_pos rfl, if_pos (by rw [HLN.out]; omega), code, HLN.out, if_neg (by omega), ← HX.out]
                      · rw [if_neg h1]
                        by_cases h2 : (zs.getD m 0).toNat < lv ∨ ((zs.getD m 0).toNat = lv ∧ m < k)
                        · rw [if_pos h2, if_pos (by omega)]
                        · rw [if_neg h2, if_neg (by omega)])
                    have hB2 := hB.grown hg2 hB.size (by intro t e; simp at e; omega)
                    have HX2 : Hid (X + 1 = fst (cnt zs) lv + cnt (zs.take (k + 1)) lv) := by show _ = _; rw [HCNT.out, HX.out]; omega
                    have c0 := hCd.at0 k hlt
                    have c1 := hCd.at1 k hlt
                    have f0 := hCd.free (k * 2)
                    have f1 := hCd.free (k * 2 + 1)
                    obtain ⟨Y, hY⟩ : ∃ Y, tr X lv = Y := ⟨_, rfl⟩
                    rw [hY] at HT hC3 hB2
                    have HC3 := hideH hC3
                    have HB2 := hideH hB2
                    have hkl : (k : Int) < (zs.length : Int) := by omega
                    have hbe : ((lv : Int) == (lv : Int)) = true := by simp
                    generalize (part zs lv k k).1 = o0 at *
                    generalize (part zs lv k k).2 = o1 at *
                    clear hC2 hg2 hC3 hB2 hCd hB HX HCNT HLN hY
                    go_wp2_with fail
                    refine Calls.mono (HT.out _) ?_
                    rintro e w7 ⟨rfl, rfl⟩
                    go_wp2_with fail
                    go_roundw
                    case rel => exact ⟨k + 1, X + 1, by omega, by go_num, by go_num, HX2, HC3.out, HB2.out⟩
                    case measure => simp [intOf]; omega
                  · have hC3 := hCd.congr (G := part zs lv (k + 1)) (fun m _ => by
                      unfold part
                      by_cases h2 : (zs.getD m 0).toNat < lv ∨ ((zs.getD m 0).toNat = lv ∧ m < k)
                      · rw [if_pos h2, if_pos (by omega)]
                      · rw [if_neg h2, if_neg]
                        intro h3
                        rcases h3 with h3 | ⟨h3, h4⟩
                        · exact h2 (.inl h3)
                        · have : m = k := by
                            have : ¬ m < k := fun h5 => h2 (.inr ⟨h3, h5⟩)
                            omega
                          rw [this, HLN.out] at h3
                          exact hll h3)
                    have HX2 : Hid (X = fst (cnt zs) lv + cnt (zs.take (k + 1)) lv) := by show _ = _; rw [HCNT.out, if_neg hll]; exact HX.out
                    have hbe : ((l : Int) == (lv : Int)) = false := by simp; omega
                    have HC3 := hideH hC3
                    have HB2 := hideH hB
                    clear hC3 hCd hB HX HCNT HLN
                    go_wp2_with fail
                    go_roundw
                    case rel => exact ⟨k + 1, X, by omega, by go_num, rfl, HX2, HC3.out, HB2.out⟩
                    case measure => simp [intOf]; omega
                · have e : k = zs.length := by omega
                  have hC3 := hCd.congr (G := part zs (j + 1 + 1) 0) (fun m hm => by
                    have := HLV.out
                    unfold part
                    by_cases h2 : (zs.getD m 0).toNat < lv ∨ ((zs.getD m 0).toNat = lv ∧ m < k)
                    · rw [if_pos h2, if_pos (by omega)]
                    · rw [if_neg h2, if_neg (by omega)])
                  have HE3 : Hid (X = endc zs (j + 1)) := by
                    show _ = _
                    rw [HLV.out, endc, if_neg (by omega), HX.out, e, List.take_length]
                  have HC3 := hideH hC3
                  have HB3 := hideH hB
                  have hlj : lv = j + 1 := HLV.out.symm
                  have HLJ := hideH hlj
                  clear hC3 hCd hB HX hlj
                  go_wp2_with fail
                  go_roundw
                  case rel => exact ⟨j + 1, X, by omega, by rw [HLJ.out]; go_num, rfl, HE3, HC3.out, HB3.out⟩
                  case measure => rw [HLJ.out]; simp [intOf]; omega
            · have e : j = 15 := by omega
              subst e
              have hfin := hCd.congr (G := code zs) (fun m hm => by
                have h1 := HOL.out (zs[m]) (List.getElem_mem hm)
                have hgd : zs[m] = zs.getD m 0 := by simp [List.getD, hm]
                rw [hgd] at h1
                unfold part
                rw [if_pos (by omega)])
              go_wp2_with fail
              go_ret
              exact ⟨ResH.yes _ _ _ _ _ HOC.out hgB hfin, hB⟩
  · have hok : okB zs = false := by simpa using hok
    have HOC : Hid (okC zs = false) := by show _ = _; simp [okC, hok]
    have hk0 : hk zs = 0 := by rw [hk, hok]; rfl
    have hk0b : (hk zs == 0) = true := by simp [hk0]
    clear hk0
    go_wp2_with fail
    go_ret
    exact ⟨ResH.no _ _ _ _ _ HOC.out, HB1.out⟩

end Go.Proofs.YtlffdadmgginmaeDoor
namespace Go.Proofs.YtlffdadmgginmaeDoor
open Go.RowKit
attribute [local go_sem ↓] Go.wp_at_zero Go.wp_at_succ
set_option linter.unusedVariables false

/-- Codes that can be read: no block is named where there are none. -/
def Reads (w : World) (ao : Option Addr) (n : Nat) (F : Nat → Nat × Nat) : Prop := 0 < n → ∃ g, ao = some ⟨g, 0, none⟩ ∧ Codes w g n F
theorem RowH.reads {B : Nat} {w : World} {ao : Option Addr} {n : Nat} {F : Nat → Nat × Nat} (h : RowH B w ao n F) : Reads w ao n F := fun h0 => by
  obtain ⟨g, h1, _, h2⟩ := h h0
  exact ⟨g, h1, h2⟩

set_option maxHeartbeats 1600000 in
theorem markInt_any (B e g n : Nat) (k : Nat) (xs : List Value) (w : World) (ho : w.ownsRow B e 1 (.slice (some ⟨g, 0, none⟩) n n) n xs) (hn : n ≤ 1048576) (hk : k ≤ 1048576) :
    Calls Tryd.prog 29 #[.slice (some ⟨g, 0, none⟩) n n, .int .i64 k] w fun e' w' => e' = .returned (.int .i64 ((k + n : Nat) : Int)) ∧ w.grownBy w' (some g) := by
  go_enter Tryd.func29, Tryd.ntmps29
  go_wp2_with fail
  go_loopw [1, 5] (fun kk i wr => ∃ (j K : Nat) (xs : List Value), j ≤ n ∧ kk = .int .i64 K ∧ Hid (K = k + j) ∧ K ≤ 2097152 ∧ i = .int .i64 j ∧ wr.ownsRow B e 1 (.slice (some ⟨g, 0, none⟩) n n) n xs ∧ w.grownBy wr (some g)) (fun _ i _ => n - (intOf i).toNat)
  case atStart => exact ⟨0, k, xs, Nat.zero_le _, rfl, (rfl : k = k + 0), by omega, rfl, ho, World.grownBy.refl _ _⟩
  case round =>
    clear ho
    obtain ⟨j, K, xs', hj, rfl, HK, hK, rfl, ho, hg⟩ := hrel
    by_cases hlt : j < n
    · have hfz := ho.frozenAt j
      have hxl : xs'.length = n := by have := ho.1; omega
      obtain ⟨u, hcu⟩ : ∃ u, wr.cell? ⟨g, j, none⟩ = some u := by
        rw [ho.cellAt j (by omega)]
        exact ⟨_, List.getElem?_eq_getElem (by omega)⟩
      obtain ⟨ho2, hg2⟩ := ho.stored j (.int .i64 K)
      have hg3 := grownBy_trans hg hg2
      have HK2 : Hid (K + 1 = k + (j + 1)) := by show _ = _; rw [HK.out]; omega
      have hK2 : K + 1 ≤ 2097152 := by have := HK.out; omega
      clear ho hg hg2 hxl
      go_wp2_with fail
      go_roundw
      case rel => exact ⟨j + 1, K + 1, _, by omega, by go_num, HK2, hK2, by go_num, ho2, hg3⟩
      case measure => simp [intOf]; omega
    · have e1 : j = n := by omega
      have hE : K = k + n := by rw [HK.out, e1]
      have HE := hideH hE
      clear hE e1
      go_wp2_with fail
      go_ret
      exact ⟨by rw [← HE.out]; rfl, hg⟩

end Go.Proofs.YtlffdadmgginmaeDoor
namespace Go.Proofs.YtlffdadmgginmaeDoor
open Go.RowKit
attribute [local go_sem ↓] Go.wp_at_zero Go.wp_at_succ
set_option linter.unusedVariables false

theorem fs_fst (f : Nat → Nat) : ∀ l, fs f l = fst f l
  | 0 => rfl
  | 1 => rfl
  | l + 2 => by rw [fs, fst, fs_fst f (l + 1)]
theorem code_ln (zs : List Int) (i : Nat) : code zs i = if ln zs i = 0 then (0, 0) else (ln zs i, tr (num zs i) (ln zs i)) := by
  unfold code num ln
  rw [fs_fst]
theorem okC_out {zs : List Int} (h : okC zs = true) : okL zs ∧ zs.length ≤ 320 ∧ SS zs 15 ≤ 32768 := by
  simp only [okC, Bool.and_eq_true, decide_eq_true_eq] at h
  obtain ⟨h1, h2⟩ := h
  obtain ⟨h3, h4⟩ := okB_ok h1
  refine ⟨h4, h3, ?_⟩
  rw [SS_kr h4]
  rw [hk, h1, if_pos rfl, hkind] at h2
  by_cases n0 : nz zs = 0
  · have := (none_has zs h4 n0).1
    omega
  · rw [if_neg n0] at h2
    by_cases k0 : 32768 < kr zs
    · rw [if_pos k0] at h2; omega
    · omega

/-- A NextRes in memory. -/
def Res3 (w : World) (p : Nat) (a b c : Int) : Prop :=
  w.cell? ⟨p, 0, none⟩ = some (.int .i64 a) ∧ w.cell? ⟨p, 1, none⟩ = some (.int .i64 b) ∧ w.cell? ⟨p, 2, none⟩ = some (.int .i64 c) ∧
    w.frozen? ⟨p, 0, none⟩ = false ∧ w.frozen? ⟨p, 1, none⟩ = false ∧ w.frozen? ⟨p, 2, none⟩ = false
theorem res3_new (w : World) (a b c : Int) (t : TypeId) : Res3 (w.alloc (.cells #[.int .i64 a, .int .i64 b, .int .i64 c] t)) w.heap.size a b c := by
  simp [Res3, go_sem]
theorem Res3.lt {w : World} {p : Nat} {a b c : Int} (h : Res3 w p a b c) : p < w.heap.size := World.block_lt_of_cell? w _ h.1
theorem Res3.grown {w w' : World} {row : Option Nat} {p : Nat} {a b c : Int} (h : Res3 w p a b c) (hg : w.grownBy w' row) (hne : some p ≠ row) : Res3 w' p a b c := by
  have e := hg.block p h.lt hne
  obtain ⟨h1, h2, h3, f1, f2, f3⟩ := h
  exact ⟨(World.cell?_of_block (w := w) e).trans h1, (World.cell?_of_block (w := w) e).trans h2, (World.cell?_of_block (w := w) e).trans h3,
    (World.frozen?_of_block (w := w) e).trans f1, (World.frozen?_of_block (w := w) e).trans f2, (World.frozen?_of_block (w := w) e).trans f3⟩
theorem Res3.below {w w' : World} {p : Nat} {a b c : Int} (h : Res3 w p a b c) (hb : Below w.heap.size w w') : Res3 w' p a b c := h.grown (grownBy_of_below hb none) (by simp)
theorem res3_set {w : World} {p : Nat} {a b c : Int} (h : Res3 w p a b c) (a' b' c' : Int) :
    Res3 (((w.setCell ⟨p, 0, none⟩ (.int .i64 a')).setCell ⟨p, 1, none⟩ (.int .i64 b')).setCell ⟨p, 2, none⟩ (.int .i64 c')) p a' b' c' ∧
      w.grownBy (((w.setCell ⟨p, 0, none⟩ (.int .i64 a')).setCell ⟨p, 1, none⟩ (.int .i64 b')).setCell ⟨p, 2, none⟩ (.int .i64 c')) (some p) := by
  obtain ⟨c0, c1, c2, f0, f1, f2⟩ := h
  refine ⟨⟨?_, ?_, ?_, ?_, ?_, ?_⟩, ?_⟩
  · rw [World.cell?_setCell_other _ _ _ _ (by simp), World.cell?_setCell_other _ _ _ _ (by simp), World.cell?_setCell_same _ _ _ c0]
  · rw [World.cell?_setCell_other _ _ _ _ (by simp), World.cell?_setCell_same _ _ _ (u := .int .i64 b) (by rw [World.cell?_setCell_other _ _ _ _ (by simp)]; exact c1)]
  · rw [World.cell?_setCell_same _ _ _ (u := .int .i64 c) (by rw [World.cell?_setCell_other _ _ _ _ (by simp), World.cell?_setCell_other _ _ _ _ (by simp)]; exact c2)]
  · simp [World.frozen?_setCell, f0]
  · simp [World.frozen?_setCell, f1]
  · simp [World.frozen?_setCell, f2]
  · exact grownBy_trans (grownBy_trans (grownBy_setCell w ⟨p, 0, none⟩ _) (grownBy_setCell _ ⟨p, 1, none⟩ _)) (grownBy_setCell _ ⟨p, 2, none⟩ _)
/-- Some code behind s begins with the first l bits. -/
def begs (zs : List Int) (b l k : Nat) : Prop := ∃ s, s < k ∧ Coded zs s ∧ l < ln zs s ∧ tr (num zs s) (ln zs s) % 2 ^ l = b % 2 ^ l
theorem Ans.bad {zs : List Int} {b n : Nat} (h : ∀ i, ¬ cov zs i (tr (b % 2 ^ n) 15)) : Ans zs b n 0 0 0 := .inr (.inr ⟨h, rfl, rfl, rfl⟩)

set_option maxRecDepth 100000 in
set_option maxHeartbeats 6400000 in
theorem l3Next_any (zs : List Int) (ao : Option Addr) (cap b n : Nat) (w : World) (hR : Reads w ao zs.length (code zs)) (hok : okC zs = true) (hb : b < 2 ^ 64) (hn : n ≤ 64) :
    Calls Tryd.prog 75 #[.slice ao zs.length cap, .int .u64 b, .int .i64 n] w fun e w' => (∃ k s l : Nat, e = .returned (.agg #[.int .i64 k, .int .i64 s, .int .i64 l]) ∧ Ans zs b n k s l) ∧ Below w.heap.size w w' := by
  obtain ⟨hoL, h320, hSS⟩ := okC_out hok
  have HOL := hideH hoL
  have HSS := hideH hSS
  have HR := hideH hR
  have hb0 : Below w.heap.size w (w.alloc (.cells #[.int .i64 0, .int .i64 0, .int .i64 0] 128)) := (Below.refl _ _).alloc (Nat.le_refl _) _
  have HB0 := hideH hb0
  have H30 := hideH (res3_new w 0 0 0 128)
  clear hoL hSS hR hb0 hok
  go_enter Tryd.func75, Tryd.ntmps75
  go_wp2_with fail
  go_loopw [7] (fun i wr => ∃ l : Nat, l ≤ 15 ∧ l ≤ n + 1 ∧ i = .int .i64 l ∧ Hid (∀ i, cov zs i (tr (b % 2 ^ n) 15) → l ≤ ln zs i) ∧ Hid (l = 0 ∨ begs zs b (l - 1) zs.length) ∧ Res3 wr w.heap.size 0 0 0 ∧ Below w.heap.size w wr) (fun i _ => 16 - (intOf i).toNat)
  case atStart => exact ⟨0, by omega, by omega, rfl, (fun i _ => Nat.zero_le _), (.inl rfl), H30.out, HB0.out⟩
  case round =>
    clear H30 HB0
    obtain ⟨l, hl15, hln1, rfl, HC, HG, h3, hB⟩ := hrel
    by_cases hle : l ≤ n
    · obtain ⟨P, hP⟩ : ∃ P, 2 ^ l = P := ⟨_, rfl⟩
      have hP0 : 0 < P := hP ▸ Nat.pos_of_ne_zero (by simp)
      have hP1 : P ≤ 32768 := hP ▸ Nat.le_trans (Nat.pow_le_pow_right (by decide) hl15) (by decide)
      have HPW := hideH (fun W => l3Pow_any l P (by omega) hP W)
      obtain ⟨Lw, hLw⟩ : ∃ Lw, b % P = Lw := ⟨_, rfl⟩
      have hLwi : ((b : Int) % (P : Int)) = (Lw : Int) := by rw [← hLw]; exact (Int.natCast_emod b P).symm
      have HPE := hideH hP
      have HLE := hideH hLw
      have H3 := hideH h3
      have HBx := hideH hB
      clear hP hLw h3 hB
      go_wp2_with fail
      refine Calls.mono (HPW.out _) ?_
      rintro e w1 ⟨rfl, rfl⟩
      go_wp2_with fail
      rw [hLwi]
      clear hLwi
      go_loopw [9, 10] (fun bg i wy => ∃ (k : Nat) (B : Bool), k ≤ zs.length ∧ i = .int .i64 k ∧ bg = .bool B ∧ Hid (B = true ↔ begs zs b l k) ∧ Hid (∀ s, s < k → Coded zs s → ln zs s = l → ¬ tr (num zs s) (ln zs s) = b % 2 ^ l) ∧ Res3 wy w.heap.size 0 0 0 ∧ Below w.heap.size w wy) (fun _ i _ => zs.length - (intOf i).toNat)
      case atStart =>
        refine ⟨0, false, Nat.zero_le _, rfl, rfl, ?_, (fun s hs => by omega), H3.out, HBx.out⟩
        exact ⟨(fun h => by cases h), (fun ⟨s, hs, _⟩ => by omega)⟩
      case round =>
        clear H3 HBx
        obtain ⟨k, B, hk, rfl, rfl, HBG, HNO, h3, hB⟩ := hrel
        by_cases hlt : k < zs.length
        · obtain ⟨g, rfl, hCd⟩ := HR.out (by omega)
          have hCd2 := hCd.grown (grownBy_of_below hB none) (by simp)
          have c0 := hCd2.at0 k hlt
          have c1 := hCd2.at1 k hlt
          have z2 := hCd2.lt
          have e1 : (code zs k).1 = ln zs k := by rw [code_ln]; split <;> simp_all
          have e2 : ln zs k ≠ 0 → (code zs k).2 = tr (num zs k) (ln zs k) := by intro h; rw [code_ln, if_neg h]
          rw [e1] at c0
          obtain ⟨Y, hY⟩ : ∃ Y, (code zs k).2 = Y := ⟨_, rfl⟩
          obtain ⟨X, hX⟩ : ∃ X, ln zs k = X := ⟨_, rfl⟩
          rw [hX] at c0 e2
          rw [hY] at c1 e2
          have hX15 : X ≤ 15 := by
            by_cases h0 : ln zs k = 0
            · omega
            · have := (Coded.of HOL.out hlt h0).most; omega
          have HXE := hideH hX
          have HYE := hideH e2
          have H3 := hideH (h3.below ((Below.refl _ _).alloc (Nat.le_refl _) (.cells #[.int .i64 X, .int .u64 Y] 104)))
          have HBx := hideH (hB.alloc hB.size (.cells #[.int .i64 X, .int .u64 Y] 104))
          have hkl : (k : Int) < (zs.length : Int) := by omega
          clear hCd hCd2 e1 e2 hY hX h3 hB
          go_upto_region 10 with fail
          have p0 : (wr.alloc (.cells #[.int .i64 X, .int .u64 Y] 104)).cell? ⟨wr.heap.size, 0, none⟩ = some (.int .i64 X) := by simp [go_sem]
          have p1 : (wr.alloc (.cells #[.int .i64 X, .int .u64 Y] 104)).cell? ⟨wr.heap.size, 1, none⟩ = some (.int .u64 Y) := by simp [go_sem]
          clear c0 c1
          generalize wr.alloc (.cells #[.int .i64 X, .int .u64 Y] 104) = w5 at *
          go_cut [46] from 22 to 66 (fun v wx => v = .bool (decide (X = l ∧ 0 < X ∧ Y = Lw)) ∧ wx = w5)
          case first =>
            by_cases hXl : X = l
            · have b1 : ((X : Int) == (l : Int)) = true := by simp; omega
              by_cases h0 : 0 < X
              · have b2 : decide ((0 : Int) < (X : Int)) = true := decide_eq_true (by omega)
                have HD : Hid (((Y : Int) == (Lw : Int)) = decide (X = l ∧ 0 < X ∧ Y = Lw)) := by
                  show _ = _
                  rw [Bool.eq_iff_iff]
                  simp
                  omega
                clear hXl
                go_wp2_with fail
                go_meet
                exact ⟨congrArg Value.bool HD.out, rfl⟩
              · have b2 : decide ((0 : Int) < (X : Int)) = false := decide_eq_false (by omega)
                have HD := hideH (decide_eq_false (p := X = l ∧ 0 < X ∧ Y = Lw) (fun h => h0 h.2.1))
                have h0' : ¬ (0 : Int) < (X : Int) := by omega
                clear hXl
                go_wp2_with fail
                go_meet
                exact ⟨congrArg Value.bool HD.out.symm, rfl⟩
            · have b1 : ((X : Int) == (l : Int)) = false := by simp; omega
              have HD := hideH (decide_eq_false (p := X = l ∧ 0 < X ∧ Y = Lw) (fun h => hXl h.1))
              clear hXl
              go_wp2_with fail
              go_meet
              exact ⟨congrArg Value.bool HD.out.symm, rfl⟩
          case rest =>
            obtain ⟨rfl, hw5⟩ := hcut
            subst hw5
            by_cases hM : X = l ∧ 0 < X ∧ Y = Lw
            · have hMb : decide (X = l ∧ 0 < X ∧ Y = Lw) = true := decide_eq_true hM
              have HA : Hid (Ans zs b n 1 k l) := by
                have hne : ln zs k ≠ 0 := by rw [HXE.out]; omega
                have hcd := Coded.of HOL.out hlt hne
                have hlk : ln zs k = l := by rw [HXE.out]; exact hM.1
                have hc : cov zs k (tr (b % 2 ^ n) 15) := by
                  refine (cov_iff hcd HSS.out (b % 2 ^ n)).1 ?_
                  rw [mod_mod _ _ _ (by rw [hlk]; exact hle), HXE.out, ← HYE.out (by omega), hM.2.2, ← HLE.out, hM.1, HPE.out]
                exact .inl ⟨k, hc, by omega, rfl, rfl, hlk.symm⟩
              rw [hMb]
              obtain ⟨k3, k4⟩ := res3_set H3.out 1 (k : Int) (l : Int)
              obtain ⟨r0, r1, r2, f0, f1, f2⟩ := H3.out
              have hB2 := HBx.out.grown k4 HBx.out.size (by intro q e; simp at e; omega)
              obtain ⟨y0, y1, y2, _⟩ := k3
              clear k4 HC HG hM hMb HBG HNO
              go_wp2_with fail
              exact bodyPost_ret (v := .agg #[.int .i64 1, .int .i64 k, .int .i64 l]) (by simp [results, Tryd.results75, go_sem, y0, y1, y2]) rfl ⟨⟨1, k, l, rfl, HA.out⟩, hB2⟩
            · have hMb : decide (X = l ∧ 0 < X ∧ Y = Lw) = false := decide_eq_false hM
              have HNO2 : Hid (∀ s, s < k + 1 → Coded zs s → ln zs s = l → ¬ tr (num zs s) (ln zs s) = b % 2 ^ l) := by
                intro s hs hcd hls
                by_cases hsk : s = k
                · subst hsk
                  intro he
                  apply hM
                  have hX : X = l := by rw [← HXE.out]; exact hls
                  have hp := hcd.pos
                  refine ⟨hX, by omega, ?_⟩
                  rw [HYE.out (by omega), ← HXE.out, he, ← HLE.out, HPE.out]
                · exact HNO.out s (by omega) hcd hls
              have HBG2 : Hid ((B || decide (l < X ∧ Y % P = Lw)) = true ↔ begs zs b l (k + 1)) := by
                show _ ↔ _
                rw [Bool.or_eq_true, decide_eq_true_eq, HBG.out]
                constructor
                · rintro (⟨s, h1, h2⟩ | ⟨h1, h2⟩)
                  · exact ⟨s, by omega, h2⟩
                  · have hne : ln zs k ≠ 0 := by rw [HXE.out]; omega
                    refine ⟨k, by omega, Coded.of HOL.out hlt hne, by rw [HXE.out]; exact h1, ?_⟩
                    rw [HXE.out, ← HYE.out (by omega), HPE.out, h2, ← HLE.out]
                · rintro ⟨s, h1, h2, h3, h4⟩
                  by_cases hsk : s = k
                  · subst hsk
                    right
                    have hp := h2.pos
                    rw [HXE.out] at h3
                    refine ⟨h3, ?_⟩
                    rw [HYE.out (by omega), ← HXE.out, ← HPE.out, h4, ← HLE.out, HPE.out]
                  · left
                    exact ⟨s, by omega, h2, h3, h4⟩
              rw [hMb]
              clear hM hMb HBG HNO
              cases B with
              | true =>
                have HV : Hid (true = true ↔ begs zs b l (k + 1)) := by
                  show _ ↔ _
                  rw [← HBG2.out]
                  simp
                go_upto_region 12 with fail
                go_quiet (fail)
                have h36 := H3.out.below (below_drewN' _ _ nq)
                have hB6 := HBx.out.trans (below_drewN' _ _ nq)
                clear H3 HBx HBG2
                go_wp2_with fail
                go_roundw
                case rel => exact ⟨k + 1, true, by omega, by go_num, rfl, HV, HNO2, h36, hB6⟩
                case measure => simp [intOf]; omega
              | false =>
                by_cases hgt : l < X
                · obtain ⟨Z, hZ⟩ : ∃ Z, Y % P = Z := ⟨_, rfl⟩
                  have hZi : ((Y : Int) % (P : Int)) = (Z : Int) := by rw [← hZ]; exact (Int.natCast_emod Y P).symm
                  have HV : Hid (((Z : Int) == (Lw : Int)) = true ↔ begs zs b l (k + 1)) := by
                    show _ ↔ _
                    rw [← HBG2.out, hZ]
                    simp [hgt, Int.ofNat_inj]
                  have b4 : decide ((l : Int) < (X : Int)) = true := decide_eq_true (by omega)
                  have hZ0 : Z < P := by rw [← hZ]; exact Nat.mod_lt _ hP0
                  have hYb : Y < 32768 := by
                    rw [HYE.out (by omega)]
                    exact Nat.lt_of_lt_of_le (tr_lt _ _) (Nat.le_trans (Nat.pow_le_pow_right (by decide) hX15) (by decide))
                  have hPi : ¬ (P : Int) = 0 := by omega
                  have hPn : ¬ P = 0 := by omega
                  have hPb : ((P : Int) == 0) = false := by simp; omega
                  have hPw : IntKind.u64.wrap (P : Int) = (P : Int) := by rw [IntKind.wrap_u64]; omega
                  have hZt : (Y : Int).tmod (P : Int) = (Z : Int) := by rw [Int.tmod_eq_emod_of_nonneg (by omega)]; exact hZi
                  have hZw : IntKind.u64.wrap (Z : Int) = (Z : Int) := by rw [IntKind.wrap_u64]; omega
                  clear hZ HBG2
                  go_upto_region 12 with fail
                  go_region_held3 (fun w' => w'.cell? ⟨wr.heap.size, 0, none⟩ = some (.int .i64 X) ∧ w'.cell? ⟨wr.heap.size, 1, none⟩ = some (.int .u64 Y))
                    (first | (refine ⟨?_, ?_⟩ <;> with_reducible assumption) | (go_keep; done))
                    ((go_at_call 73; refine Calls.mono (HPW.out _) ?_; rintro e w7 ⟨rfl, rfl⟩))
                  have h36 := H3.out.below ((Below.refl _ _).drew)
                  have hB6 := HBx.out.trans (((Below.refl _ _).drew).mono HBx.out.size)
                  clear H3 HBx
                  go_wp2_with fail
                  go_roundw
                  case rel => exact ⟨k + 1, ((Z : Int) == (Lw : Int)), by omega, by go_num, rfl, HV, HNO2, h36, hB6⟩
                  case measure => simp [intOf]; omega
                · have b4 : decide ((l : Int) < (X : Int)) = false := decide_eq_false (by omega)
                  have HV : Hid (false = true ↔ begs zs b l (k + 1)) := by
                    show _ ↔ _
                    rw [← HBG2.out]
                    simp [hgt]
                  clear HBG2
                  go_upto_region 12 with fail
                  go_quiet (fail)
                  have h36 := H3.out.below (below_drewN' _ _ nq)
                  have hB6 := HBx.out.trans (below_drewN' _ _ nq)
                  clear H3 HBx
                  go_wp2_with fail
                  go_roundw
                  case rel => exact ⟨k + 1, false, by omega, by go_num, rfl, HV, HNO2, h36, hB6⟩
                  case measure => simp [intOf]; omega
        · have e : k = zs.length := by omega
          have HBG3 : Hid (B = true ↔ begs zs b l zs.length) := by rw [← e]; exact HBG.out
          have HNO3 : Hid (∀ s, Coded zs s → ln zs s = l → ¬ tr (num zs s) (ln zs s) = b % 2 ^ l) := fun s hs h => HNO.out s (by have := hs.lt; omega) hs h
          have HCN : Hid (∀ i, cov zs i (tr (b % 2 ^ n) 15) → l + 1 ≤ ln zs i) := by
            intro i hi
            have h1 := HC.out i hi
            have h2 : ln zs i ≠ l := fun h => by
              have h3 := beg_of_cov hi HSS.out hle (by omega : l ≤ ln zs i)
              rw [← h, Nat.mod_eq_of_lt (tr_lt _ _)] at h3
              exact HNO3.out i hi.1 h (by rw [h3, h])
            omega
          clear HBG HNO e
          cases B with
          | true =>
            have hbg := HBG3.out.1 rfl
            have hl14 : l + 1 ≤ 15 := by
              obtain ⟨s, _, h1, h2, _⟩ := hbg
              have := h1.most
              omega
            have HG2 : Hid (l + 1 = 0 ∨ begs zs b (l + 1 - 1) zs.length) := .inr hbg
            clear hbg HBG3
            go_wp2_with fail
            go_roundw
            case rel => exact ⟨l + 1, hl14, by omega, by go_num, HCN, HG2, h3, hB⟩
            case measure => simp [intOf]; omega
          | false =>
            have HA : Hid (Ans zs b n 0 0 0) := by
              refine Ans.bad (fun i hi => ?_)
              have h1 := HCN.out i hi
              have h2 := HBG3.out.2 ⟨i, hi.1.lt, hi.1, by omega, beg_of_cov hi HSS.out hle (by omega)⟩
              cases h2
            obtain ⟨k3, k4⟩ := res3_set h3 0 0 0
            obtain ⟨r0, r1, r2, f0, f1, f2⟩ := h3
            have hB2 := hB.grown k4 hB.size (by intro q e; simp at e; omega)
            obtain ⟨y0, y1, y2, _⟩ := k3
            clear k4 HC HG HBG3 HCN
            go_wp2_with fail
            exact bodyPost_ret (v := .agg #[.int .i64 0, .int .i64 0, .int .i64 0]) (by simp [results, Tryd.results75, go_sem, y0, y1, y2]) rfl ⟨⟨0, 0, 0, rfl, HA.out⟩, hB2⟩
    · have HA : Hid (Ans zs b n 2 0 0) := by
        have hl : l = n + 1 := by omega
        rcases HG.out with h0 | h0
        · omega
        · refine .inr (.inl ?_)
          rw [hl, Nat.add_sub_cancel] at h0
          by_cases hex : ∃ i, cov zs i (tr (b % 2 ^ n) 15)
          · obtain ⟨i, hi⟩ := hex
            have := HC.out i hi
            exact ⟨i, hi, by omega, rfl, rfl, rfl⟩
          · obtain ⟨s, _, hs, h1, h2⟩ := h0
            exact (no_beg HSS.out (by omega) (fun i hi => hex ⟨i, hi⟩) hs h1 h2).elim
      obtain ⟨k3, k4⟩ := res3_set h3 2 0 0
      obtain ⟨r0, r1, r2, f0, f1, f2⟩ := h3
      have hB2 := hB.grown k4 hB.size (by intro q e; simp at e; omega)
      obtain ⟨y0, y1, y2, _⟩ := k3
      clear k4 HC HG
      go_wp2_with fail
      exact bodyPost_ret (v := .agg #[.int .i64 2, .int .i64 0, .int .i64 0]) (by simp [results, Tryd.results75, go_sem, y0, y1, y2]) rfl ⟨⟨2, 0, 0, rfl, HA.out⟩, hB2⟩

end Go.Proofs.YtlffdadmgginmaeDoor
namespace Go.Proofs.YtlffdadmgginmaeDoor
open Go.RowKit
attribute [local go_sem ↓] Go.wp_at_zero Go.wp_at_succ
set_option linter.unusedVariables false

/-- What HuffNext answers. -/
def AnsN (zs : List Int) (b : Nat) (n : Int) (k s l : Nat) : Prop :=
  if okC zs = true ∧ 0 ≤ n ∧ n ≤ 64 then Ans zs b n.toNat k s l else k = 0 ∧ s = 0 ∧ l = 0
theorem AnsN.yes {zs : List Int} {b k s l : Nat} {n : Nat} (h1 : okC zs = true) (h2 : n ≤ 64) (h : Ans zs b n k s l) : AnsN zs b n k s l := by
  unfold AnsN
  rw [if_pos ⟨h1, by omega, by omega⟩]
  exact h
theorem AnsN.no {zs : List Int} {b : Nat} {n : Int} (h : ¬ (okC zs = true ∧ 0 ≤ n ∧ n ≤ 64)) : AnsN zs b n 0 0 0 := by
  unfold AnsN
  rw [if_neg h]
  exact ⟨rfl, rfl, rfl⟩
theorem AnsN.one {zs : List Int} {b : Nat} {n : Int} {k s l k' s' l' : Nat} (h : AnsN zs b n k s l) (h' : AnsN zs b n k' s' l') : k = k' ∧ s = s' ∧ l = l' := by
  unfold AnsN at h h'
  split at h
  · rename_i hc
    rw [if_pos hc] at h'
    exact h.one h'
  · rename_i hc
    rw [if_neg hc] at h'
    omega

end Go.Proofs.YtlffdadmgginmaeDoor
namespace Go.Proofs.YtlffdadmgginmaeDoor
open Go.RowKit
attribute [local go_sem ↓] Go.wp_at_zero Go.wp_at_succ
set_option linter.unusedVariables false

theorem ownsRow_up {B : Nat} {e : TypeId} {k : Nat} {v : Value} {n : Nat} {xs : List Value} {w w' : World} (h : w.ownsRow B e k v n xs) (hb : Below w.heap.size w w') : w'.ownsRow B e k v n xs :=
  h.kept (grownBy_of_below hb none) (by cases hv : v.ownBlock <;> simp)
/-- The entries of an array from cell o of block g on. -/
structure Ents (w : World) (g o n : Nat) (F : Nat → Nat × Nat) : Prop where
  lt : g < w.heap.size
  at0 : ∀ i, i < n → w.cell? ⟨g, o + i * 2, none⟩ = some (.int .i8 ((F i).1 : Nat))
  at1 : ∀ i, i < n → w.cell? ⟨g, o + i * 2 + 1, none⟩ = some (.int .i16 ((F i).2 : Nat))
  free : ∀ o, w.frozen? ⟨g, o, none⟩ = false
/-- Of block g nothing but the cells from o on, m of them, has been written; of the others nothing. -/
structure Only (w w' : World) (g o m : Nat) : Prop where
  grown : w.grownBy w' (some g)
  rest : ∀ f, f < o ∨ o + m ≤ f → w'.cell? ⟨g, f, none⟩ = w.cell? ⟨g, f, none⟩
  free : ∀ f, w'.frozen? ⟨g, f, none⟩ = w.frozen? ⟨g, f, none⟩
  owns : ∀ B e k N cap xs, w.ownsRow B e k (.slice (some ⟨g, 0, none⟩) N cap) N xs → ∃ xs', w'.ownsRow B e k (.slice (some ⟨g, 0, none⟩) N cap) N xs'
theorem Only.refl (w : World) (g o m : Nat) : Only w w g o m := ⟨World.grownBy.refl _ _, fun _ _ => rfl, fun _ => rfl, fun _ _ _ _ _ xs h => ⟨xs, h⟩⟩
theorem Only.trans {w w' w'' : World} {g o m : Nat} (h : Only w w' g o m) (h' : Only w' w'' g o m) : Only w w'' g o m :=
  ⟨grownBy_trans h.grown h'.grown, fun f hf => (h'.rest f hf).trans (h.rest f hf), fun f => (h'.free f).trans (h.free f), fun B e k N cap xs ho => by
    obtain ⟨ys, h1⟩ := h.owns B e k N cap xs ho
    exact h'.owns B e k N cap ys h1⟩
theorem Only.below {w w' : World} {g o m : Nat} (hg : g < w.heap.size) (h : Below w.heap.size w w') : Only w w' g o m := by
  have e := (grownBy_of_below h none).block g hg (by simp)
  exact ⟨grownBy_of_below h _, fun f _ => World.cell?_of_block (w := w) e, fun f => World.frozen?_of_block (w := w) e, fun B e k N cap xs ho => ⟨xs, ownsRow_up ho h⟩⟩
theorem Ents.grown {w w' : World} {row : Option Nat} {g o n : Nat} {F : Nat → Nat × Nat} (h : Ents w g o n F) (hg : w.grownBy w' row) (hne : some g ≠ row) : Ents w' g o n F := by
  have e := hg.block g h.lt hne
  exact ⟨Nat.lt_of_lt_of_le h.lt hg.size, fun i hi => (World.cell?_of_block (w := w) e).trans (h.at0 i hi), fun i hi => (World.cell?_of_block (w := w) e).trans (h.at1 i hi), fun o => (World.frozen?_of_block (w := w) e).trans (h.free o)⟩
theorem Ents.below {w w' : World} {g o n : Nat} {F : Nat → Nat × Nat} (h : Ents w g o n F) (hb : Below w.heap.size w w') : Ents w' g o n F := h.grown (grownBy_of_below hb none) (by simp)
theorem Ents.congr {w : World} {g o n : Nat} {F G : Nat → Nat × Nat} (h : Ents w g o n F) (e : ∀ i, i < n → F i = G i) : Ents w g o n G :=
  ⟨h.lt, fun i hi => by rw [← e i hi]; exact h.at0 i hi, fun i hi => by rw [← e i hi]; exact h.at1 i hi, h.free⟩
theorem Ents.set {w : World} {g o n : Nat} {F : Nat → Nat × Nat} (h : Ents w g o n F) {k : Nat} (hk : k < n) (a b : Nat) :
    Ents ((w.setCell ⟨g, o + k * 2, none⟩ (.int .i8 a)).setCell ⟨g, o + k * 2 + 1, none⟩ (.int .i16 b)) g o n (fun i => if i = k then (a, b) else F i) ∧ Only w ((w.setCell ⟨g, o + k * 2, none⟩ (.int .i8 a)).setCell ⟨g, o + k * 2 + 1, none⟩ (.int .i16 b)) g o (n * 2) := by
  refine ⟨⟨by simpa using h.lt, ?_, ?_, fun o => by rw [World.frozen?_setCell, World.frozen?_setCell]; exact h.free o⟩,
    ⟨grownBy_trans (grownBy_setCell w ⟨g, o + k * 2, none⟩ _) (grownBy_setCell _ ⟨g, o + k * 2 + 1, none⟩ _), fun f hf => ?_, fun f => by rw [World.frozen?_setCell, World.frozen?_setCell], fun B e k' N cap xs ho => ⟨_, ((ho.stored _ _).1.stored _ _).1⟩⟩⟩
  · intro i hi
    rw [World.cell?_setCell_other _ _ _ _ (by first | (simp; done) | (simp; omega))]
    by_cases e : i = k
    · subst e
      rw [World.cell?_setCell_same _ _ _ (h.at0 i hi)]
      simp
    · rw [World.cell?_setCell_other _ _ _ _ (by first | (simp; done) | (simp; omega)), h.at0 i hi]
      simp [e]
  · intro i hi
    by_cases e : i = k
    · subst e
      have h1 : (w.setCell ⟨g, o + i * 2, none⟩ (.int .i8 a)).cell? ⟨g, o + i * 2 + 1, none⟩ = some (.int .i16 ((F i).2 : Nat)) := by
        rw [World.cell?_setCell_other _ _ _ _ (by first | (simp; done) | (simp; omega))]
        exact h.at1 i hi
      rw [World.cell?_setCell_same _ _ _ h1]
      simp
    · rw [World.cell?_setCell_other _ _ _ _ (by first | (simp; done) | (simp; omega)), World.cell?_setCell_other _ _ _ _ (by first | (simp; done) | (simp; omega)), h.at1 i hi]
      simp [e]
  · rw [World.cell?_setCell_other _ _ _ _ (by first | (simp; done) | (simp; omega)), World.cell?_setCell_other _ _ _ _ (by first | (simp; done) | (simp; omega))]

/-- A table: short's entries, and the row of long's arrays. -/
structure Tab (w : World) (p : Nat) (S : Nat → Nat × Nat) (m : Nat) (L : Nat → Nat → Nat × Nat) : Prop where
  short : Ents w p 0 512 S
  long : ∃ lo c xs, w.cell? ⟨p, 1024, none⟩ = some (.slice lo m c) ∧ w.ownsRow (p + 1) 229 128 (.slice lo m c) m xs ∧ ∀ j, j < m → ∃ g, lo = some ⟨g, 0, none⟩ ∧ p < g ∧ Ents w g (j * 128) 64 (L j)
theorem Tab.below {w w' : World} {p m : Nat} {S : Nat → Nat × Nat} {L : Nat → Nat → Nat × Nat} (h : Tab w p S m L) (hb : Below w.heap.size w w') : Tab w' p S m L := by
  obtain ⟨h1, lo, c, xs, h2, h3, h4⟩ := h
  refine ⟨h1.below hb, lo, c, xs, ?_, ownsRow_up h3 hb, fun j hj => ?_⟩
  · exact (World.cell?_of_block (w := w) ((grownBy_of_below hb none).block p h1.lt (by simp))).trans h2
  · obtain ⟨g, e, h5, h6⟩ := h4 j hj
    exact ⟨g, e, h5, h6.below hb⟩
/-- What a look at the bits x finds. -/
def look (S : Nat → Nat × Nat) (L : Nat → Nat → Nat × Nat) (x : Nat) : Nat × Nat := if (S (x % 512)).1 = 16 then L (S (x % 512)).2 (x / 512 % 64) else S (x % 512)

set_option maxRecDepth 100000 in
set_option maxHeartbeats 6400000 in
theorem spread_any (g o n c l a b S : Nat) (F : Nat → Nat × Nat) (w : World) (hE : Ents w g o n F) (hn : n ≤ 512) (hl : l ≤ 9) (hS : 2 ^ l = S) (hc : c < S) :
    Calls Tryd.prog 142 #[.slice (some ⟨g, o, none⟩) n n, .int .u64 c, .int .i64 l, .agg #[.int .i8 a, .int .i16 b]] w fun e w' => e = .returned (.tuple #[]) ∧ Ents w' g o n (fun i => if i % S = c then (a, b) else F i) ∧ Only w w' g o (n * 2) := by
  have hb0 : Below w.heap.size w (w.alloc (.cells #[.int .i8 a, .int .i16 b] 218)) := (Below.refl _ _).alloc (Nat.le_refl _) _
  have hS1 : S ≤ 512 := hS ▸ Nat.le_trans (Nat.pow_le_pow_right (by decide) hl) (by decide)
  have hS0 : 0 < S := by omega
  have HE0 := hideH (hE.below hb0)
  have HO0 := hideH (Only.below (o := o) (m := n * 2) hE.lt hb0)
  have hgw := hE.lt
  have p0 : (w.alloc (.cells #[.int .i8 a, .int .i16 b] 218)).cell? ⟨w.heap.size, 0, none⟩ = some (.int .i8 a) := by simp [go_sem]
  have p1 : (w.alloc (.cells #[.int .i8 a, .int .i16 b] 218)).cell? ⟨w.heap.size, 1, none⟩ = some (.int .i16 b) := by simp [go_sem]
  have HS := hideH hS
  clear hE hb0 hS
  go_enter Tryd.func142, Tryd.ntmps142
  go_wp2_with fail
  go_loopw [8] (fun i wr => ∃ p : Nat, p < n + S ∧ i = .int .u64 p ∧ Hid (p % S = c) ∧ Ents wr g o n (fun i => if i < p ∧ i % S = c then (a, b) else F i) ∧ Only w wr g o (n * 2) ∧ wr.cell? ⟨w.heap.size, 0, none⟩ = some (.int .i8 a) ∧ wr.cell? ⟨w.heap.size, 1, none⟩ = some (.int .i16 b)) (fun i _ => n + S - (intOf i).toNat)
  case atStart =>
    refine ⟨c, by omega, rfl, (Nat.mod_eq_of_lt hc), HE0.out.congr (fun i _ => ?_), HO0.out, p0, p1⟩
    rw [if_neg]
    rintro ⟨h1, h2⟩
    rw [Nat.mod_eq_of_lt (by omega)] at h2
    omega
  case round =>
    clear HE0 HO0 p0 p1
    obtain ⟨p, hp, rfl, HM, hE, hO, q0, q1⟩ := hrel
    by_cases hlt : p < n
    · have c0 := hE.at0 p hlt
      have c1 := hE.at1 p hlt
      have f0 := hE.free (o + p * 2)
      have f1 := hE.free (o + p * 2 + 1)
      obtain ⟨hE2, hO2⟩ := hE.set hlt a b
      have hE3 := hE2.congr (G := fun i => if i < p + S ∧ i % S = c then (a, b) else F i) (fun i _ => by
        by_cases e : i = p
        · subst e
          rw [if_pos rfl, if_pos ⟨by omega, HM.out⟩]
        · rw [if_neg e]
          by_cases h1 : i < p ∧ i % S = c
          · rw [if_pos h1, if_pos ⟨by omega, h1.2⟩]
          · rw [if_neg h1, if_neg]
            rintro ⟨h2, h3⟩
            apply h1
            refine ⟨?_, h3⟩
            by_cases h4 : i < p
            · exact h4
            · exfalso
              have h5 : (i - p) % S = 0 := by
                have h6 : i % S = p % S := by rw [h3, HM.out]
                exact Nat.sub_mod_eq_zero_of_mod_eq h6
              rw [Nat.mod_eq_of_lt (by omega)] at h5
              omega)
      have hO3 := hO.trans hO2
      have r0 := (World.cell?_of_block (w := wr) (hO2.grown.block w.heap.size (World.block_lt_of_cell? wr _ q0) (by simp; omega)) (a := ⟨w.heap.size, 0, none⟩)).trans q0
      have r1 := (World.cell?_of_block (w := wr) (hO2.grown.block w.heap.size (World.block_lt_of_cell? wr _ q0) (by simp; omega)) (a := ⟨w.heap.size, 1, none⟩)).trans q1
      have HM2 : Hid ((p + S) % S = c) := by show _ = _; rw [Nat.add_mod_right]; exact HM.out
      have HE3 := hideH hE3
      have HO3 := hideH hO3
      have HR0 := hideH r0
      have HR1 := hideH r1
      obtain ⟨u0, hu0⟩ : ∃ u, wr.cell? ⟨g, o + p * 2, none⟩ = some u := ⟨_, c0⟩
      obtain ⟨u1, hu1⟩ : ∃ u, wr.cell? ⟨g, o + p * 2 + 1, none⟩ = some u := ⟨_, c1⟩
      have hw : IntKind.u64.wrap ((p : Int) + IntKind.u64.wrap (2 ^ l)) = ((p + S : Nat) : Int) := by
        have h1 : ((2 : Int) ^ l) = (S : Int) := by rw [← HS.out]; exact (Int.natCast_pow 2 l).symm
        rw [h1, IntKind.wrap_u64, IntKind.wrap_u64]
        omega
      clear c0 c1 hE hE2 hE3 hO hO2 hO3 r0 r1
      go_wp2_with fail
      exact ⟨⟨p + S, by omega, by simp, HM2, HE3.out, HO3.out, HR0.out, HR1.out⟩, by simp [intOf]; omega⟩
    · have HF : Hid (Ents wr g o n (fun i => if i % S = c then (a, b) else F i)) := hE.congr (fun i hi => by
        by_cases h : i % S = c
        · rw [if_pos ⟨by omega, h⟩, if_pos h]
        · rw [if_neg (fun h1 => h h1.2), if_neg h])
      have HO := hideH hO
      clear hE hO
      go_wp2_with fail
      go_end0
      exact ⟨rfl, HF.out, HO.out⟩

end Go.Proofs.YtlffdadmgginmaeDoor
namespace Go.Proofs.YtlffdadmgginmaeDoor
open Go.RowKit
attribute [local go_sem ↓] Go.wp_at_zero Go.wp_at_succ
set_option linter.unusedVariables false

/-- What the table's look answers. -/
def AnsT (t : Nat × Nat) (n k s l : Nat) : Prop := if t.1 = 0 then k = 0 ∧ s = 0 ∧ l = 0 else if n < t.1 then k = 2 ∧ s = 0 ∧ l = 0 else k = 1 ∧ s = t.2 ∧ l = t.1
theorem mask_any (b n : Nat) (hb : b < 2 ^ 64) (hn : n ≤ 64) : bits .and .u64 (b : Int) (IntKind.u64.wrap (IntKind.u64.wrap (2 ^ n) - 1)) = ((b % 2 ^ n : Nat) : Int) := by
  have h0 : 0 < 2 ^ n := Nat.pos_of_ne_zero (by simp)
  have h1 : 2 ^ n ≤ 2 ^ 64 := Nat.pow_le_pow_right (by decide) hn
  have h2 : IntKind.u64.wrap (IntKind.u64.wrap (2 ^ n) - 1) = ((2 ^ n - 1 : Nat) : Int) := by
    have h3 : ((2 : Int) ^ n) = ((2 ^ n : Nat) : Int) := (Int.natCast_pow 2 n).symm
    rw [h3]
    generalize 2 ^ n = P at *
    rw [IntKind.wrap_u64, IntKind.wrap_u64]
    omega
  rw [h2, u64_and b (2 ^ n - 1) hb (by omega), Nat.and_two_pow_sub_one_eq_mod]
set_option maxRecDepth 100000 in
set_option maxHeartbeats 6400000 in
theorem tnext_any (p m b n M X : Nat) (S : Nat → Nat × Nat) (L : Nat → Nat → Nat × Nat) (w : World) (hT : Tab w p S m L) (hb : b < 2 ^ 64) (hn : n ≤ 64)
    (hX : b % 2 ^ n = X) (hl1 : ∀ i, (S i).1 ≤ 16) (hl2 : ∀ i, (S i).1 = 16 → (S i).2 < m) (hl3 : ∀ i, (S i).2 ≤ 320) (hl4 : ∀ i j, (L i j).1 ≤ 15 ∧ (L i j).2 ≤ 320) :
    Calls Tryd.prog 144 #[.pointer (some ⟨p, 0, none⟩), .int .u64 b, .int .i64 n] w fun e w' => (∃ k s l : Nat, e = .returned (.agg #[.int .i64 k, .int .i64 s, .int .i64 l]) ∧ AnsT (look S L X) n k s l) ∧ Below w.heap.size w w' := by
  have hb0 : Below w.heap.size w (w.alloc (.cells #[.int .i64 0, .int .i64 0, .int .i64 0] 128)) := (Below.refl _ _).alloc (Nat.le_refl _) _
  have HB0 := hideH hb0
  have H30 := hideH (res3_new w 0 0 0 128)
  have HT := hideH (hT.below hb0)
  have HX := hideH hX
  clear hT hb0 hX
  go_enter Tryd.func144, Tryd.ntmps144
  go_upto_region 2 with fail
  rw [mask_any b n hb hn, HX.out]
  have hX64 : X < 2 ^ 64 := by
    rw [← HX.out]
    exact Nat.lt_of_le_of_lt (Nat.mod_le _ _) hb
  obtain ⟨I, hI⟩ : ∃ I, X % 512 = I := ⟨_, rfl⟩
  have hI1 : I < 512 := by omega
  have hIi : ((X : Int) % 512) = (I : Int) := by omega
  have hIt : ((X : Int).tmod 512) = (I : Int) := by rw [Int.tmod_eq_emod_of_nonneg (by omega)]; exact hIi
  obtain ⟨E0, hE0⟩ : ∃ e, (S I).1 = e := ⟨_, rfl⟩
  obtain ⟨E1, hE1⟩ : ∃ e, (S I).2 = e := ⟨_, rfl⟩
  have c0 := HT.out.short.at0 I hI1
  have c1 := HT.out.short.at1 I hI1
  rw [hE0] at c0
  rw [hE1] at c1
  rw [Nat.zero_add] at c0 c1
  have hE16 : E0 ≤ 16 := hE0 ▸ hl1 I
  have hE320 : E1 ≤ 320 := hE1 ▸ hl3 I
  have HI := hideH hI
  have HE0 := hideH hE0
  have HE1 := hideH hE1
  have HL1 := hideH hl1
  have HL2 := hideH hl2
  have HL3 := hideH hl3
  have HL4 := hideH hl4
  have hpw := HT.out.short.lt
  clear hI hE0 hE1 hl1 hl2 hl3 hl4
  generalize w.alloc (.cells #[.int .i64 0, .int .i64 0, .int .i64 0] 128) = w1 at *
  have hbW : Below w1.heap.size w1 (w1.alloc (.cells #[.int .i8 E0, .int .i16 E1] 218)) := (Below.refl _ _).alloc (Nat.le_refl _) _
  by_cases h16 : E0 = 16
  · have b16 : ((E0 : Int) == 16) = true := by simp; omega
    obtain ⟨lo, c, xs, hcl, how, hen⟩ := (HT.out.below hbW).long
    obtain ⟨g, rfl, hpg, hEn⟩ := hen E1 (by have := HL2.out I (by rw [HE0.out]; exact h16); rw [HE1.out] at this; exact this)
    have hEm : E1 < m := by have := HL2.out I (by rw [HE0.out]; exact h16); rw [HE1.out] at this; exact this
    obtain ⟨J, hJ⟩ : ∃ J, X / 512 % 64 = J := ⟨_, rfl⟩
    have hJ1 : J < 64 := by omega
    obtain ⟨T0, hT0⟩ : ∃ e, (L E1 J).1 = e := ⟨_, rfl⟩
    obtain ⟨T1, hT1⟩ : ∃ e, (L E1 J).2 = e := ⟨_, rfl⟩
    have d0 := hEn.at0 J hJ1
    have d1 := hEn.at1 J hJ1
    rw [hT0] at d0
    rw [hT1] at d1
    have hgw := hEn.lt
    have hK1 : (X : Int) / 512 = ((X / 512 : Nat) : Int) := by omega
    obtain ⟨Q, hQ⟩ : ∃ Q, X / 512 = Q := ⟨_, rfl⟩
    rw [hQ] at hJ
    have hQi : (X : Int) / 512 = (Q : Int) := by omega
    have hQw : IntKind.u64.wrap (Q : Int) = (Q : Int) := by rw [IntKind.wrap_u64]; omega
    have hJi : (Q : Int) % 64 = (J : Int) := by omega
    have hJt : (Q : Int).tmod 64 = (J : Int) := by rw [Int.tmod_eq_emod_of_nonneg (by omega)]; exact hJi
    have HJ := hideH hJ
    have HQ := hideH hQ
    have HT0 := hideH hT0
    have HT1 := hideH hT1
    have H16 := hideH h16
    have hE0m : (0 : Int) ≤ (E1 : Int) := by omega
    have hE1m : (E1 : Int) < (m : Int) := by omega
    clear hEn hen how hK1 hJ hQ hT0 hT1 h16
    go_upto_region 4 with fail
    have HLK : Hid (look S L X = (T0, T1)) := by
      show _ = _
      unfold look
      rw [HI.out, HE0.out, if_pos H16.out, HE1.out, HQ.out, HJ.out, ← HT0.out, ← HT1.out]
    have hT15 : T0 ≤ 15 := by rw [← HT0.out]; exact (HL4.out _ _).1
    have hT320 : T1 ≤ 320 := by rw [← HT1.out]; exact (HL4.out _ _).2
    go_region
    clear d0 d1 hcl hgw
    have hbT : Below w1.heap.size w1 ((w1.alloc (.cells #[.int .i8 T0, .int .i16 T1] 218)).drew) := ((Below.refl _ _).alloc (Nat.le_refl _) _).drew
    have H32 := hideH (H30.out.below hbT)
    have HB2 := hideH (HB0.out.trans (hbT.mono HB0.out.size))
    have e0 : ((w1.alloc (.cells #[.int .i8 T0, .int .i16 T1] 218)).drew).cell? ⟨w1.heap.size, 0, none⟩ = some (.int .i8 T0) := by simp [go_sem]
    have e1 : ((w1.alloc (.cells #[.int .i8 T0, .int .i16 T1] 218)).drew).cell? ⟨w1.heap.size, 1, none⟩ = some (.int .i16 T1) := by simp [go_sem]
    clear hbT hbW
    generalize (w1.alloc (.cells #[.int .i8 T0, .int .i16 T1] 218)).drew = w2 at *
    by_cases hz : T0 = 0
    · have HA : Hid (AnsT (look S L X) n 0 0 0) := by
        unfold Hid AnsT
        rw [HLK.out, if_pos hz]
        exact ⟨rfl, rfl, rfl⟩
      have bz : ((T0 : Int) == 0) = true := by simp; omega
      clear hz
      obtain ⟨k3, k4⟩ := res3_set H32.out 0 0 0
      obtain ⟨r0, r1, r2, f0, f1, f2⟩ := H32.out
      have hB3 := HB2.out.grown k4 HB2.out.size (by intro q e; simp at e; omega)
      obtain ⟨y0, y1, y2, _⟩ := k3
      clear k4
      go_wp2_with fail
      exact bodyPost_ret (v := .agg #[.int .i64 0, .int .i64 0, .int .i64 0]) (by simp [results, Tryd.results144, go_sem, y0, y1, y2]) rfl ⟨⟨0, 0, 0, rfl, HA.out⟩, hB3⟩
    · have bz : ((T0 : Int) == 0) = false := by simp; omega
      by_cases hg : n < T0
      · have HA : Hid (AnsT (look S L X) n 2 0 0) := by
          unfold Hid AnsT
          rw [HLK.out, if_neg hz, if_pos hg]
          exact ⟨rfl, rfl, rfl⟩
        have bg : decide ((n : Int) < (T0 : Int)) = true := decide_eq_true (by omega)
        clear hz
        obtain ⟨k3, k4⟩ := res3_set H32.out 2 0 0
        obtain ⟨r0, r1, r2, f0, f1, f2⟩ := H32.out
        have hB3 := HB2.out.grown k4 HB2.out.size (by intro q e; simp at e; omega)
        obtain ⟨y0, y1, y2, _⟩ := k3
        clear k4
        go_wp2_with fail
        exact bodyPost_ret (v := .agg #[.int .i64 2, .int .i64 0, .int .i64 0]) (by simp [results, Tryd.results144, go_sem, y0, y1, y2]) rfl ⟨⟨2, 0, 0, rfl, HA.out⟩, hB3⟩
      · have HA : Hid (AnsT (look S L X) n 1 T1 T0) := by
          unfold Hid AnsT
          rw [HLK.out, if_neg hz, if_neg hg]
          exact ⟨rfl, rfl, rfl⟩
        have bg : decide ((n : Int) < (T0 : Int)) = false := decide_eq_false (by omega)
        clear hz
        obtain ⟨k3, k4⟩ := res3_set H32.out 1 T1 T0
        obtain ⟨r0, r1, r2, f0, f1, f2⟩ := H32.out
        have hB3 := HB2.out.grown k4 HB2.out.size (by intro q e; simp at e; omega)
        obtain ⟨y0, y1, y2, _⟩ := k3
        clear k4
        go_wp2_with fail
        exact bodyPost_ret (v := .agg #[.int .i64 1, .int .i64 T1, .int .i64 T0]) (by simp [results, Tryd.results144, go_sem, y0, y1, y2]) rfl ⟨⟨1, T1, T0, rfl, HA.out⟩, hB3⟩
  · have b16 : ((E0 : Int) == 16) = false := by simp; omega
    have HLK : Hid (look S L X = (E0, E1)) := by
      show _ = _
      unfold look
      rw [HI.out, HE0.out, if_neg h16, ← HE0.out, ← HE1.out]
    clear h16
    go_upto_region 5 with fail
    have hbT : Below w1.heap.size w1 (w1.alloc (.cells #[.int .i8 E0, .int .i16 E1] 218)) := (Below.refl _ _).alloc (Nat.le_refl _) _
    have H32 := hideH (H30.out.below hbT)
    have HB2 := hideH (HB0.out.trans (hbT.mono HB0.out.size))
    have e0 : (w1.alloc (.cells #[.int .i8 E0, .int .i16 E1] 218)).cell? ⟨w1.heap.size, 0, none⟩ = some (.int .i8 E0) := by simp [go_sem]
    have e1 : (w1.alloc (.cells #[.int .i8 E0, .int .i16 E1] 218)).cell? ⟨w1.heap.size, 1, none⟩ = some (.int .i16 E1) := by simp [go_sem]
    clear hbT hbW
    generalize w1.alloc (.cells #[.int .i8 E0, .int .i16 E1] 218) = w2 at *
    by_cases hz : E0 = 0
    · have HA : Hid (AnsT (look S L X) n 0 0 0) := by
        unfold Hid AnsT
        rw [HLK.out, if_pos hz]
        exact ⟨rfl, rfl, rfl⟩
      have bz : ((E0 : Int) == 0) = true := by simp; omega
      clear hz
      obtain ⟨k3, k4⟩ := res3_set H32.out 0 0 0
      obtain ⟨r0, r1, r2, f0, f1, f2⟩ := H32.out
      have hB3 := HB2.out.grown k4 HB2.out.size (by intro q e; simp at e; omega)
      obtain ⟨y0, y1, y2, _⟩ := k3
      clear k4
      go_wp2_with fail
      exact bodyPost_ret (v := .agg #[.int .i64 0, .int .i64 0, .int .i64 0]) (by simp [results, Tryd.results144, go_sem, y0, y1, y2]) rfl ⟨⟨0, 0, 0, rfl, HA.out⟩, hB3⟩
    · have bz : ((E0 : Int) == 0) = false := by simp; omega
      by_cases hg : n < E0
      · have HA : Hid (AnsT (look S L X) n 2 0 0) := by
          unfold Hid AnsT
          rw [HLK.out, if_neg hz, if_pos hg]
          exact ⟨rfl, rfl, rfl⟩
        have bg : decide ((n : Int) < (E0 : Int)) = true := decide_eq_true (by omega)
        clear hz
        obtain ⟨k3, k4⟩ := res3_set H32.out 2 0 0
        obtain ⟨r0, r1, r2, f0, f1, f2⟩ := H32.out
        have hB3 := HB2.out.grown k4 HB2.out.size (by intro q e; simp at e; omega)
        obtain ⟨y0, y1, y2, _⟩ := k3
        clear k4
        go_wp2_with fail
        exact bodyPost_ret (v := .agg #[.int .i64 2, .int .i64 0, .int .i64 0]) (by simp [results, Tryd.results144, go_sem, y0, y1, y2]) rfl ⟨⟨2, 0, 0, rfl, HA.out⟩, hB3⟩
      · have HA : Hid (AnsT (look S L X) n 1 E1 E0) := by
          unfold Hid AnsT
          rw [HLK.out, if_neg hz, if_neg hg]
          exact ⟨rfl, rfl, rfl⟩
        have bg : decide ((n : Int) < (E0 : Int)) = false := decide_eq_false (by omega)
        clear hz
        obtain ⟨k3, k4⟩ := res3_set H32.out 1 E1 E0
        obtain ⟨r0, r1, r2, f0, f1, f2⟩ := H32.out
        have hB3 := HB2.out.grown k4 HB2.out.size (by intro q e; simp at e; omega)
        obtain ⟨y0, y1, y2, _⟩ := k3
        clear k4
        go_wp2_with fail
        exact bodyPost_ret (v := .agg #[.int .i64 1, .int .i64 E1, .int .i64 E0]) (by simp [results, Tryd.results144, go_sem, y0, y1, y2]) rfl ⟨⟨1, E1, E0, rfl, HA.out⟩, hB3⟩

end Go.Proofs.YtlffdadmgginmaeDoor
namespace Go.Proofs.YtlffdadmgginmaeDoor
open Go.RowKit
attribute [local go_sem ↓] Go.wp_at_zero Go.wp_at_succ
set_option linter.unusedVariables false

/-- Nothing but the table's two blocks has been written. -/
structure Upd (w w' : World) (p : Nat) : Prop where
  os : w'.os = w.os
  tape : w'.tape = w.tape
  output : w'.output = w.output
  size : w.heap.size ≤ w'.heap.size
  block : ∀ k, k < w.heap.size → k ≠ p → (∀ g m c, w.cell? ⟨p, 1024, none⟩ = some (.slice (some ⟨g, 0, none⟩) m c) → k ≠ g) → w'.heap[k]? = w.heap[k]?

theorem Ents.other {w : World} {g o n : Nat} {F : Nat → Nat × Nat} (h : Ents w g o n F) {f : Nat} (hf : f < o ∨ o + n * 2 ≤ f) (v : Value) : Ents (w.setCell ⟨g, f, none⟩ v) g o n F := by
  refine ⟨by simpa using h.lt, ?_, ?_, fun o => by rw [World.frozen?_setCell]; exact h.free o⟩
  · intro i hi
    rw [World.cell?_setCell_other _ _ _ _ (by first | (simp; done) | (simp; omega))]
    exact h.at0 i hi
  · intro i hi
    rw [World.cell?_setCell_other _ _ _ _ (by first | (simp; done) | (simp; omega))]
    exact h.at1 i hi
theorem ownsRow_lt {w : World} {B g N c k : Nat} {e : TypeId} {xs : List Value} (h : w.ownsRow B e k (.slice (some ⟨g, 0, none⟩) N c) N xs) : g < w.heap.size := (h.lt g rfl).2
/-- A row of arrays with one more behind it. -/
theorem long_push {w w4 : World} {B B' p m c c4 g4 : Nat} {lo : Option Addr} {xs news : List Value} {e : TypeId} {L : Nat → Nat → Nat × Nat}
    (how : w.ownsRow B e 128 (.slice lo m c) m xs) (hen : ∀ j, j < m → ∃ g, lo = some ⟨g, 0, none⟩ ∧ p < g ∧ Ents w g (j * 128) 64 (L j))
    (hown : w4.ownsRow B' e 128 (.slice (some ⟨g4, 0, none⟩) (m + 1) c4) (m + 1) (xs ++ news)) (h0 : ∀ i, i < 64 → news[i * 2]? = some (.int .i8 0)) (h1 : ∀ i, i < 64 → news[i * 2 + 1]? = some (.int .i16 0)) :
    ∀ j, j < m + 1 → Ents w4 g4 (j * 128) 64 (if j = m then fun _ => (0, 0) else L j) := by
  intro j hj
  have hxl : xs.length = m * 128 := how.1
  by_cases hjm : j = m
  · subst hjm
    rw [if_pos rfl]
    refine ⟨ownsRow_lt hown, fun i hi => ?_, fun i hi => ?_, fun o => hown.frozenAt o⟩
    · rw [hown.cellAt _ (by omega), List.getElem?_append_right (by omega), hxl, Nat.add_sub_cancel_left, h0 i hi]
      rfl
    · rw [hown.cellAt _ (by omega), List.getElem?_append_right (by omega), hxl, Nat.add_assoc, Nat.add_sub_cancel_left, h1 i hi]
      rfl
  · rw [if_neg hjm]
    obtain ⟨g, rfl, _, hE⟩ := hen j (by omega)
    refine ⟨ownsRow_lt hown, fun i hi => ?_, fun i hi => ?_, fun o => hown.frozenAt o⟩
    · rw [hown.cellAt _ (by omega), List.getElem?_append_left (by omega), ← how.cellAt _ (by omega)]
      exact hE.at0 i hi
    · rw [hown.cellAt _ (by omega), List.getElem?_append_left (by omega), ← how.cellAt _ (by omega)]
      exact hE.at1 i hi
theorem wrap_i16 (m : Nat) (h : m ≤ 512) : IntKind.i16.wrap (m : Int) = (m : Int) := by simp [IntKind.wrap, IntKind.bits, IntKind.signed]; omega

theorem Tryd.info_arr : (Tryd.prog.info? 229).map (fun i => (i.zero, i.size, i.bytes)) = some (some (.agg Tryd.zeroCells229), 128, 256) := by kernel_rfl
theorem zeroArr_size : Tryd.zeroCells229.size = 128 := by kernel_rfl
set_option maxRecDepth 100000 in
set_option maxHeartbeats 6400000 in
/-- link where there is one. -/
theorem link_has (p m f : Nat) (S : Nat → Nat × Nat) (L : Nat → Nat → Nat × Nat) (w : World) (hT : Tab w p S m L) (hf : f < 512) (h16 : (S f).1 = 16) (hl2 : (S f).2 ≤ 512) :
    Calls Tryd.prog 143 #[.pointer (some ⟨p, 0, none⟩), .int .u64 f] w fun e w' => e = .returned (.int .i16 ((S f).2 : Nat)) ∧ w' = w := by
  obtain ⟨E1, hE1⟩ : ∃ e, (S f).2 = e := ⟨_, rfl⟩
  have c0 := hT.short.at0 f hf
  have c1 := hT.short.at1 f hf
  rw [h16] at c0
  rw [hE1] at c1 hl2
  rw [hE1]
  rw [Nat.zero_add] at c0 c1
  have hpw := hT.short.lt
  clear hT hE1 h16
  go_enter Tryd.func143, Tryd.ntmps143
  go_wp2_with fail
  go_ret
  exact ⟨rfl, rfl⟩

end Go.Proofs.YtlffdadmgginmaeDoor
namespace Go.Proofs.YtlffdadmgginmaeDoor
open Go.RowKit
attribute [local go_sem ↓] Go.wp_at_zero Go.wp_at_succ
set_option linter.unusedVariables false

def zz : Nat → List Value
  | 0 => []
  | k + 1 => zz k ++ [.int .i8 0, .int .i16 0]
theorem zz_len (k : Nat) : (zz k).length = k * 2 := by
  induction k with
  | zero => rfl
  | succ k ih => simp [zz, ih]; omega
theorem zz_at (k i : Nat) (h : i < k) : (zz k)[i * 2]? = some (.int .i8 0) ∧ (zz k)[i * 2 + 1]? = some (.int .i16 0) := by
  induction k with
  | zero => omega
  | succ k ih =>
    have hl := zz_len k
    rw [zz]
    by_cases h1 : i < k
    · rw [List.getElem?_append_left (by omega), List.getElem?_append_left (by omega)]; exact ih h1
    · have h2 : i = k := by omega
      subst h2
      rw [List.getElem?_append_right (by omega), List.getElem?_append_right (by omega), hl, Nat.sub_self, Nat.add_sub_cancel_left]
      exact ⟨rfl, rfl⟩
theorem zeroArr_eq : Tryd.zeroCells229.toList = zz 64 := by kernel_rfl
theorem zeroArr_one : Tryd.zeroCells229.toList.all (fun u => u.oneCell') = true := by kernel_rfl
theorem alloc_at (w : World) (A : Array Value) (e : TypeId) (j : Nat) (u : Value) (h : A.toList[j]? = some u) : (w.alloc (.cells A e)).cell? ((⟨w.heap.size, 0, none⟩ : Addr).add j) = some u := by
  have h2 : A[j]? = some u := by simpa using h
  simp [go_sem, h2]

theorem link_fin {w w3 w4 : World} {p m c : Nat} {lo : Option Addr} {xs : List Value} {e : TypeId} {S : Nat → Nat × Nat} {L : Nat → Nat → Nat × Nat} {v4 : Value} {A : Array Value} (he : e = 229) (hpw : p < w.heap.size) (hO3 : Only w w3 p 0 1024) (hE3 : Ents w3 p 0 512 S) (hcl : w.cell? ⟨p, 1024, none⟩ = some (.slice lo m c))
    (how : w.ownsRow (p + 1) e 128 (.slice lo m c) m xs) (hen : ∀ j, j < m → ∃ g, lo = some ⟨g, 0, none⟩ ∧ p < g ∧ Ents w g (j * 128) 64 (L j))
    (hgrow : (w3.alloc (.cells A e)).grownBy w4 (Value.slice lo m c).ownBlock) (hown : w4.ownsRow (p + 1) e 128 v4 (m + 1) (xs ++ zz 64)) :
    ∃ g4 c4, v4 = .slice (some ⟨g4, 0, none⟩) (m + 1) c4 ∧ w4.cell? ⟨p, 1024, none⟩ = some (.slice lo m c) ∧ w4.frozen? ⟨p, 1024, none⟩ = false ∧
      Tab (w4.setCell ⟨p, 1024, none⟩ (.slice (some ⟨g4, 0, none⟩) (m + 1) c4)) p S (m + 1) (fun j => if j = m then fun _ => (0, 0) else L j) ∧ Upd w (w4.setCell ⟨p, 1024, none⟩ (.slice (some ⟨g4, 0, none⟩) (m + 1) c4)) p := by
  subst he
  obtain ⟨g4, c4, rfl⟩ : ∃ g4 c4, v4 = .slice (some ⟨g4, 0, none⟩) (m + 1) c4 := by
    rcases hown.2 with ⟨_, h0⟩ | ⟨g', cap', cur, h', _⟩
    · omega
    · exact ⟨g', cap', h'⟩
  have hlp : some p ≠ (Value.slice lo m c).ownBlock := by
    cases lo with
    | none => simp [Value.ownBlock]
    | some a => have := (how.lt a.block rfl).1; simp [Value.ownBlock]; omega
  have hb3 : Below w3.heap.size w3 (w3.alloc (.cells A 229)) := (Below.refl _ _).alloc (Nat.le_refl _) _
  have hEa := hE3.below hb3
  have hE4 := hEa.grown hgrow hlp
  have hcl3 := (hO3.rest 1024 (by omega)).trans hcl
  have hb : ∀ k, k < w3.heap.size → some k ≠ (Value.slice lo m c).ownBlock → w4.heap[k]? = w3.heap[k]? := fun k hk hne =>
    (hgrow.block k (Nat.lt_of_lt_of_le hk (grownBy_of_below hb3 none).size) hne).trans ((grownBy_of_below hb3 none).block k hk (by simp))
  have hcl4 := (World.cell?_of_block (a := ⟨p, 1024, none⟩) (hb p hE3.lt hlp)).trans hcl3
  have hpg : p + 1 ≤ g4 := (hown.lt g4 rfl).1
  have hs := grownBy_setCell w4 ⟨p, 1024, none⟩ (.slice (some ⟨g4, 0, none⟩) (m + 1) c4)
  have hlong := long_push how hen hown (fun i hi => (zz_at 64 i hi).1) (fun i hi => (zz_at 64 i hi).2)
  refine ⟨g4, c4, rfl, hcl4, hE4.free 1024, ⟨hE4.other (.inr (by omega)) _, some ⟨g4, 0, none⟩, c4, xs ++ zz 64, ?_, ?_, ?_⟩, ?_⟩
  · rw [World.cell?_setCell_same _ _ _ hcl4]
  · exact hown.kept hs (.inr (by simp [Value.ownBlock]; omega))
  · intro j hj
    exact ⟨g4, rfl, by omega, (hlong j hj).grown hs (by simp; omega)⟩
  · have ga := hO3.grown
    have gb := grownBy_of_below hb3 none
    refine ⟨?_, ?_, ?_, ?_, ?_⟩
    · exact hs.os.trans (hgrow.os.trans (gb.os.trans ga.os))
    · exact hs.tape.trans (hgrow.tape.trans (gb.tape.trans ga.tape))
    · exact hs.output.trans (hgrow.output.trans (gb.output.trans ga.output))
    · exact Nat.le_trans ga.size (Nat.le_trans gb.size (Nat.le_trans hgrow.size hs.size))
    · intro k hk hkp hkg
      have hne : some k ≠ (Value.slice lo m c).ownBlock := by
        rcases how.2 with ⟨h', _⟩ | ⟨g', cap', cur, h', _⟩
        · rw [h']; simp [Value.ownBlock]
        · rw [h'] at hcl ⊢
          have := hkg g' m cap' hcl
          simpa [Value.ownBlock] using this
      exact (hs.block k (Nat.lt_of_lt_of_le hk (Nat.le_trans ga.size (Nat.le_trans gb.size hgrow.size))) (by simpa using hkp)).trans ((hb k (Nat.lt_of_lt_of_le hk ga.size) hne).trans (ga.block k hk (by simpa using hkp)))

set_option maxRecDepth 100000 in
set_option maxHeartbeats 6400000 in
/-- link where there is none. -/
theorem link_new (p m f : Nat) (S : Nat → Nat × Nat) (L : Nat → Nat → Nat × Nat) (w : World) (hT : Tab w p S m L) (hf : f < 512) (hm : m ≤ 512) (h16 : ¬ (S f).1 = 16) (hl1 : (S f).1 ≤ 16) (hl2 : (S f).2 ≤ 512) :
    Calls Tryd.prog 143 #[.pointer (some ⟨p, 0, none⟩), .int .u64 f] w fun e w' => e = .returned (.int .i16 m) ∧ Tab w' p (fun i => if i = f then (16, m) else S i) (m + 1) (fun j => if j = m then fun _ => (0, 0) else L j) ∧ Upd w w' p := by
  obtain ⟨E0, hE0⟩ : ∃ e, (S f).1 = e := ⟨_, rfl⟩
  obtain ⟨E1, hE1⟩ : ∃ e, (S f).2 = e := ⟨_, rfl⟩
  obtain ⟨i0, hi, hz0, hz1, hz2⟩ := info_parts Tryd.info_arr
  have c0 := hT.short.at0 f hf
  have c1 := hT.short.at1 f hf
  rw [hE0] at c0 hl1 h16
  rw [hE1] at c1 hl2
  rw [Nat.zero_add] at c0 c1
  have hpw := hT.short.lt
  have b16 : ((E0 : Int) != 16) = true := by simp; omega
  obtain ⟨hsh, lo, c, xs, hcl, how, hen⟩ := hT
  obtain ⟨hE2, hO2⟩ := hsh.set hf 16 m
  rw [Nat.zero_add] at hE2 hO2
  have f0 := hsh.free (f * 2)
  have f1 := hsh.free (f * 2 + 1)
  have hcl2 := (hO2.rest 1024 (by omega)).trans hcl
  have how2 := how.kept hO2.grown (by
    cases lo with
    | none => exact .inl rfl
    | some a => exact .inr (by have := (how.lt a.block rfl).1; simp [Value.ownBlock]; omega))
  have hcg : ∀ k, w.cell? ⟨p, 1024, none⟩ = some k → k = .slice lo m c := fun k h => by rw [hcl] at h; exact (Option.some.inj h).symm
  have HE2 := hideH hE2
  have HO2 := hideH hO2
  have HOW := hideH how
  have HOW2 := hideH how2
  have HEN := hideH hen
  have HCL := hideH hcl
  have hmw := wrap_i16 m hm
  clear h16 hsh hE2 hO2 how hen how2 hcg hE0 hE1
  go_enter Tryd.func143, Tryd.ntmps143
  go_upto_region 2 with fail
  go_region
  have hw3 : ∃ w3 : World, w3 = ((w.setCell ⟨p, f * 2, none⟩ (.int .i8 16)).setCell ⟨p, f * 2 + 1, none⟩ (.int .i16 m)).drew := ⟨_, rfl⟩
  obtain ⟨w3, hw3⟩ := hw3
  have HO3 : Hid (Only w w3 p 0 1024) := by rw [hw3]; exact HO2.out.trans (Only.below HE2.out.lt ((Below.refl _ _).drew))
  have HE3 : Hid (Ents w3 p 0 512 (fun i => if i = f then (16, m) else S i)) := by rw [hw3]; exact HE2.out.below ((Below.refl _ _).drew)
  have HOW3 : Hid (w3.ownsRow (p + 1) 229 128 (.slice lo m c) m xs) := by rw [hw3]; exact HOW2.out
  have hcl3 : w3.cell? ⟨p, 1024, none⟩ = some (.slice lo m c) := by rw [hw3]; exact hcl2
  rw [← hw3]
  have hpw3 := HE3.out.lt
  have HN := hideH (fun (A : Array Value) (hA : A = Tryd.zeroCells229) (j : Nat) (u : Value) (h : Tryd.zeroCells229.toList[j]? = some u) => alloc_at w3 A 229 j u (by rw [hA]; exact h))
  have HOW4 := hideH (fun (A : Array Value) => ownsRow_up HOW3.out ((Below.refl _ _).alloc (Nat.le_refl _) (.cells A 229)))
  clear hw3 hcl2 HE2 HO2 HOW2 hcl c0 c1 f0 f1
  go_wp2_with (at_builtin; refine wpList_append_cells _ rfl _ _ 220 rfl (p + 1) 229 i0 (.agg Tryd.zeroCells229) 128 256 Tryd.underlying220 hi hz0 hz1 hz2 ?hzs ?hpos (.slice lo m c) m xs rfl (HOW4.out _) ⟨w3.heap.size, 0, none⟩ 1 1 Tryd.zeroCells229.toList rfl ?hlen (HN.out _ ?hA) ?hone ?h63 ?hby ?hbase ?hgo)
  case hzs => exact zeroArr_size
  case hpos => decide
  case hlen => rw [Array.length_toList]; exact zeroArr_size
  case hA => kernel_rfl
  case hone => exact fun u hu => List.all_eq_true.1 zeroArr_one u hu
  case h63 => unfold maxLen; omega
  case hby => omega
  case hbase => simp; omega
  intro v4 w4 hown hgrow
  rw [zeroArr_eq] at hown
  obtain ⟨g4, c4, rfl, hc4, hf4, hT5, hU5⟩ := link_fin rfl hpw HO3.out HE3.out HCL.out HOW.out HEN.out hgrow hown
  have a1 := hT5.short.at1 f hf
  rw [Nat.zero_add, if_pos rfl] at a1
  have HT5 := hideH hT5
  have HU5 := hideH hU5
  clear hown hgrow hT5 hU5 HN HOW3 HOW4 HE3 HO3 HOW HEN HCL hcl3 hpw3
  go_wp2_with fail
  go_ret
  exact ⟨rfl, HT5.out, HU5.out⟩

end Go.Proofs.YtlffdadmgginmaeDoor
namespace Go.Proofs.YtlffdadmgginmaeDoor
open Go.RowKit
attribute [local go_sem ↓] Go.wp_at_zero Go.wp_at_succ
set_option linter.unusedVariables false

theorem Upd.only {w w' : World} {p : Nat} (h : Only w w' p 0 1024) : Upd w w' p :=
  ⟨h.grown.os, h.grown.tape, h.grown.output, h.grown.size, fun k hk hp _ => h.grown.block k hk (by simpa using hp)⟩
/-- spread into short. -/
theorem Tab.short_set {w w' : World} {p m : Nat} {S S' : Nat → Nat × Nat} {L : Nat → Nat → Nat × Nat} (h : Tab w p S m L) (hE : Ents w' p 0 512 S') (hO : Only w w' p 0 1024) : Tab w' p S' m L := by
  obtain ⟨h1, lo, c, xs, h2, h3, h4⟩ := h
  refine ⟨hE, lo, c, xs, (hO.rest 1024 (by omega)).trans h2, ?_, fun j hj => ?_⟩
  · refine h3.kept hO.grown ?_
    cases lo with
    | none => exact .inl rfl
    | some a => exact .inr (by have := (h3.lt a.block rfl).1; simp [Value.ownBlock]; omega)
  · obtain ⟨g, e, h5, h6⟩ := h4 j hj
    exact ⟨g, e, h5, h6.grown hO.grown (by simp; omega)⟩

set_option maxRecDepth 100000 in
set_option maxHeartbeats 6400000 in
theorem put_short (p m s X Y P : Nat) (S : Nat → Nat × Nat) (L : Nat → Nat → Nat × Nat) (w : World) (hT : Tab w p S m L) (hs : s ≤ 320) (hX0 : 0 < X) (hX : X ≤ 9) (hP : 2 ^ X = P) (hY : Y < P) :
    Calls Tryd.prog 138 #[.pointer (some ⟨p, 0, none⟩), .int .i16 s, .agg #[.int .i64 X, .int .u64 Y]] w fun e w' => e = .returned (.tuple #[]) ∧ Tab w' p (fun i => if i % P = Y then (X, s) else S i) m L ∧ Upd w w' p := by
  obtain ⟨w2, hw2⟩ : ∃ w2, (w.alloc (.cells #[.int .i64 X, .int .u64 Y] 104)).alloc (.cells #[.int .i8 X, .int .i16 s] 218) = w2 := ⟨_, rfl⟩
  have hb2 : Below w.heap.size w w2 := by
    rw [← hw2]
    exact ((Below.refl _ _).alloc (Nat.le_refl _) _).alloc (by simp) _
  have hpw := hT.short.lt
  have hX8 : IntKind.i8.wrap (X : Int) = (X : Int) := by simp [IntKind.wrap, IntKind.bits, IntKind.signed]; omega
  have p0 : w2.cell? ⟨w.heap.size, 0, none⟩ = some (.int .i64 X) := by rw [← hw2]; simp [go_sem]
  have p1 : w2.cell? ⟨w.heap.size, 1, none⟩ = some (.int .u64 Y) := by rw [← hw2]; simp [go_sem]
  have p2 : w2.cell? ⟨w.heap.size + 1, 0, none⟩ = some (.int .i8 X) := by rw [← hw2]; simp [go_sem]
  have p3 : w2.cell? ⟨w.heap.size + 1, 1, none⟩ = some (.int .i16 s) := by rw [← hw2]; simp [go_sem]
  have HT := hideH hT
  have HT2 := hideH (hT.below hb2)
  have HB2 := hideH hb2
  have HSP := hideH (fun W (hW : Below w2.heap.size w2 W) => spread_any p 0 512 Y X X s P S W ((HT2.out.below hW).short) (by omega) hX hP hY)
  have b9 : decide ((X : Int) ≤ 9) = true := decide_eq_true (by omega)
  clear hT hb2 hP
  go_enter Tryd.func138, Tryd.ntmps138
  go_upto_region 3 with fail
  have hl0 := World.block_lt_of_cell? w2 _ p0
  have hl1 := World.block_lt_of_cell? w2 _ p2
  have HW2 := hideH hw2
  clear hw2
  go_region_held3 (fun w' => w'.cell? ⟨w.heap.size, 0, none⟩ = some (.int .i64 X) ∧ w'.cell? ⟨w.heap.size, 1, none⟩ = some (.int .u64 Y) ∧ w'.cell? ⟨w.heap.size + 1, 0, none⟩ = some (.int .i8 X) ∧ w'.cell? ⟨w.heap.size + 1, 1, none⟩ = some (.int .i16 s))
    (first | (refine ⟨?_, ?_, ?_, ?_⟩ <;> with_reducible assumption) | (go_keep; done))
    ((go_at_call 142; refine Calls.mono (HSP.out _ ((Below.refl _ _).drew)) ?_; rintro e w7 ⟨rfl, hE7, hO7⟩; have q0 := (World.cell?_of_block (w := w2.drew) (a := ⟨w.heap.size, 0, none⟩) (hO7.grown.block w.heap.size hl0 (by simp; omega))).trans p0; have q1 := (World.cell?_of_block (w := w2.drew) (a := ⟨w.heap.size, 1, none⟩) (hO7.grown.block w.heap.size hl0 (by simp; omega))).trans p1; have q2 := (World.cell?_of_block (w := w2.drew) (a := ⟨w.heap.size + 1, 0, none⟩) (hO7.grown.block (w.heap.size + 1) hl1 (by simp; omega))).trans p2; have q3 := (World.cell?_of_block (w := w2.drew) (a := ⟨w.heap.size + 1, 1, none⟩) (hO7.grown.block (w.heap.size + 1) hl1 (by simp; omega))).trans p3))
  have hbd : Below w.heap.size w w2.drew := HB2.out.trans (((Below.refl _ _).drew).mono HB2.out.size)
  have hOw : Only w w7 p 0 1024 := (Only.below hpw hbd).trans hO7
  have HF := hideH (Tab.short_set HT.out hE7 hOw)
  have HU := hideH (Upd.only hOw)
  clear hbd hOw hE7 hO7
  go_wp2_with fail
  exact bodyPost_ret (v := .tuple #[]) (results_none rfl _ _ _) rfl ⟨rfl, HF.out, HU.out⟩

end Go.Proofs.YtlffdadmgginmaeDoor
namespace Go.Proofs.YtlffdadmgginmaeDoor
open Go.RowKit
attribute [local go_sem ↓] Go.wp_at_zero Go.wp_at_succ
set_option linter.unusedVariables false

theorem Upd.keeps {w w2 w3 : World} {p m : Nat} {S : Nat → Nat × Nat} {L : Nat → Nat → Nat × Nat} (hT : Tab w p S m L) (hb : Below w.heap.size w w2) (hU : Upd w2 w3 p) (k : Nat) (hk : w.heap.size ≤ k) (hk2 : k < w2.heap.size) : w3.heap[k]? = w2.heap[k]? := by
  have hp := hT.short.lt
  obtain ⟨lo, c, xs, h2, h3, h4⟩ := hT.long
  have e := (World.cell?_of_block (a := ⟨p, 1024, none⟩) ((grownBy_of_below hb none).block p hp (by simp))).trans h2
  refine hU.block k hk2 (by omega) (fun g m' c' h => ?_)
  rw [e] at h
  have h5 := Option.some.inj h
  rw [h5] at h3
  have := (h3.lt g rfl).2
  omega
/-- spread into one of long's arrays. -/
theorem Tab.long_set {w w' : World} {p m q g c : Nat} {S : Nat → Nat × Nat} {L : Nat → Nat → Nat × Nat} {F : Nat → Nat × Nat} (h : Tab w p S m L) (hq : q < m)
    (hc : w.cell? ⟨p, 1024, none⟩ = some (.slice (some ⟨g, 0, none⟩) m c)) (hE : Ents w' g (q * 128) 64 F) (hO : Only w w' g (q * 128) (64 * 2)) : Tab w' p S m (fun j => if j = q then F else L j) := by
  obtain ⟨h1, lo, c', xs', h2, h3, h4⟩ := h
  rw [hc] at h2
  have e := Option.some.inj h2
  simp only [Value.slice.injEq, true_and] at e
  obtain ⟨rfl, rfl⟩ := e
  have hpg : p + 1 ≤ g := (h3.lt g rfl).1
  obtain ⟨ys, h3'⟩ := hO.owns _ _ _ _ _ _ h3
  refine ⟨h1.grown hO.grown (by simp; omega), some ⟨g, 0, none⟩, c, ys, (World.cell?_of_block (a := ⟨p, 1024, none⟩) (hO.grown.block p h1.lt (by simp; omega))).trans hc, h3', fun j hj => ⟨g, rfl, by omega, ?_⟩⟩
  by_cases hjq : j = q
  · subst hjq
    rw [if_pos rfl]
    exact hE
  · rw [if_neg hjq]
    obtain ⟨g', e', _, h5⟩ := h4 j hj
    simp only [Option.some.injEq, Addr.mk.injEq, and_true] at e'
    subst e'
    refine ⟨hE.lt, fun i hi => ?_, fun i hi => ?_, hE.free⟩
    · rw [hO.rest _ (by omega)]; exact h5.at0 i hi
    · rw [hO.rest _ (by omega)]; exact h5.at1 i hi

end Go.Proofs.YtlffdadmgginmaeDoor
namespace Go.Proofs.YtlffdadmgginmaeDoor
open Go.RowKit
attribute [local go_sem ↓] Go.wp_at_zero Go.wp_at_succ
set_option linter.unusedVariables false

theorem Upd.beneath {w w' : World} {p m B : Nat} {S : Nat → Nat × Nat} {L : Nat → Nat → Nat × Nat} (hT : Tab w p S m L) (hU : Upd w w' p) (hB : B ≤ p) : Below B w w' := by
  have hp := hT.short.lt
  refine ⟨hU.os, hU.tape, hU.output, hU.size, fun k hk => hU.block k (by omega) (by omega) (fun g m' c h => ?_)⟩
  obtain ⟨lo, c2, xs, h2, h3, _⟩ := hT.long
  rw [h2] at h
  have h5 := Option.some.inj h
  rw [h5] at h3
  have := (h3.lt g rfl).1
  omega
theorem cell_off {w : World} {k : Nat} {A : Array Value} {e : TypeId} {fz : Nat × Nat} {B g N c n : Nat} {e' : TypeId} {xs : List Value} (h : w.heap[k]? = some (.cells A e fz)) (ho : w.ownsRow B e' n (.slice (some ⟨g, 0, none⟩) N c) N xs) (hne : e ≠ e') : k ≠ g := by
  rintro rfl
  rcases ho.2 with ⟨h', _⟩ | ⟨g', cap', cur, h', _, hg, _⟩
  · simp at h'
  · simp only [Value.slice.injEq, Option.some.injEq, Addr.mk.injEq, and_true, true_and] at h'
    obtain ⟨rfl, rfl⟩ := h'
    rw [h] at hg
    simp only [Option.some.injEq, Obj.cells.injEq] at hg
    exact hne hg.2.1

theorem alloc2_heap (w : World) (A B : Array Value) (e e' : TypeId) : ((w.alloc (.cells A e)).alloc (.cells B e')).heap[w.heap.size]? = some (.cells A e (0, 0)) ∧ ((w.alloc (.cells A e)).alloc (.cells B e')).heap[w.heap.size + 1]? = some (.cells B e' (0, 0)) := by
  constructor
  · simp only [World.alloc, Array.getElem?_push, Array.size_push]
    simp
  · simp only [World.alloc, Array.getElem?_push, Array.size_push]
    simp

set_option maxRecDepth 100000 in
set_option maxHeartbeats 6400000 in
theorem put_long (p m s X Y P F Y2 q m' : Nat) (S S' : Nat → Nat × Nat) (L L' : Nat → Nat → Nat × Nat) (w : World) (hT : Tab w p S m L) (hs : s ≤ 320) (hX0 : 9 < X) (hX : X ≤ 15) (hP : 2 ^ (X - 9) = P) (hY : Y < 32768) (hF : Y % 512 = F) (hY2 : Y / 512 = Y2) (hY3 : Y2 < P) (hq : q < m') (hm : m' ≤ 513)
    (hlink : ∀ W, Tab W p S m L → Calls Tryd.prog 143 #[.pointer (some ⟨p, 0, none⟩), .int .u64 F] W fun e w' => e = .returned (.int .i16 q) ∧ Tab w' p S' m' L' ∧ Upd W w' p) :
    Calls Tryd.prog 138 #[.pointer (some ⟨p, 0, none⟩), .int .i16 s, .agg #[.int .i64 X, .int .u64 Y]] w fun e w' => e = .returned (.tuple #[]) ∧ Tab w' p S' m' (fun j => if j = q then fun i => if i % P = Y2 then (X, s) else L' q i else L' j) ∧ ∀ B, B ≤ p → Below B w w' := by
  obtain ⟨w2, hw2⟩ : ∃ w2, (w.alloc (.cells #[.int .i64 X, .int .u64 Y] 104)).alloc (.cells #[.int .i8 X, .int .i16 s] 218) = w2 := ⟨_, rfl⟩
  have hb2 : Below w.heap.size w w2 := by
    rw [← hw2]
    exact ((Below.refl _ _).alloc (Nat.le_refl _) _).alloc (by simp) _
  have hpw := hT.short.lt
  have hX8 : IntKind.i8.wrap (X : Int) = (X : Int) := by simp [IntKind.wrap, IntKind.bits, IntKind.signed]; omega
  have p0 : w2.cell? ⟨w.heap.size, 0, none⟩ = some (.int .i64 X) := by rw [← hw2]; simp [go_sem]
  have p1 : w2.cell? ⟨w.heap.size, 1, none⟩ = some (.int .u64 Y) := by rw [← hw2]; simp [go_sem]
  have p2 : w2.cell? ⟨w.heap.size + 1, 0, none⟩ = some (.int .i8 X) := by rw [← hw2]; simp [go_sem]
  have p3 : w2.cell? ⟨w.heap.size + 1, 1, none⟩ = some (.int .i16 s) := by rw [← hw2]; simp [go_sem]
  have HT := hideH hT
  have HLK := hideH (hlink w2 (hT.below hb2))
  have HB2 := hideH hb2
  have b9 : decide ((X : Int) ≤ 9) = false := decide_eq_false (by omega)
  have hFi : (Y : Int) % 512 = (F : Int) := by omega
  have hFt : (Y : Int).tmod 512 = (F : Int) := by rw [Int.tmod_eq_emod_of_nonneg (by omega)]; exact hFi
  have HW2 := hideH hw2
  have HP := hideH hP
  have hl0 := World.block_lt_of_cell? w2 _ p0
  have hl1 := World.block_lt_of_cell? w2 _ p2
  clear hT hb2 hP hlink
  go_enter Tryd.func138, Tryd.ntmps138
  go_wp2_with (go_at_call 143; refine Calls.mono HLK.out ?_)
  intro e w3 he hT3 hU3
  subst he
  have hk0 := Upd.keeps HT.out HB2.out hU3 w.heap.size (Nat.le_refl _) hl0
  have hk1 := Upd.keeps HT.out HB2.out hU3 (w.heap.size + 1) (by omega) hl1
  have q0 := (World.cell?_of_block (a := ⟨w.heap.size, 0, none⟩) hk0).trans p0
  have q1 := (World.cell?_of_block (a := ⟨w.heap.size, 1, none⟩) hk0).trans p1
  have q2 := (World.cell?_of_block (a := ⟨w.heap.size + 1, 0, none⟩) hk1).trans p2
  have q3 := (World.cell?_of_block (a := ⟨w.heap.size + 1, 1, none⟩) hk1).trans p3
  obtain ⟨lo3, c3, xs3, hc3, ho3, hen3⟩ := hT3.long
  obtain ⟨g, rfl, hpg, hEq⟩ := hen3 q hq
  have hg0 : w.heap.size ≠ g := cell_off (hk0.trans (by rw [← HW2.out]; exact (alloc2_heap w _ _ _ _).1)) ho3 (by decide)
  have hg1 : w.heap.size + 1 ≠ g := cell_off (hk1.trans (by rw [← HW2.out]; exact (alloc2_heap w _ _ _ _).2)) ho3 (by decide)
  have hl3 := Nat.lt_of_lt_of_le hl0 hU3.size
  have hl4 := Nat.lt_of_lt_of_le hl1 hU3.size
  have HSP := hideH (fun W (hW : Below w3.heap.size w3 W) => spread_any g (q * 128) 64 Y2 (X - 9) X s P (L' q) W (hEq.below hW) (by omega) (by omega) HP.out hY3)
  have HT3 := hideH hT3
  have HU3 := hideH hU3
  have hgw := hEq.lt
  have hY2i : (Y : Int) / 512 = (Y2 : Int) := by omega
  have hX9 : ((X - 9 : Nat) : Int) = (X : Int) - 9 := by omega
  have hX9w : IntKind.i64.wrap ((X - 9 : Nat) : Int) = ((X - 9 : Nat) : Int) := by rw [IntKind.wrap_i64]; omega
  obtain ⟨X9, hXX⟩ : ∃ x, X - 9 = x := ⟨_, rfl⟩
  rw [hXX] at HSP hX9 hX9w
  have hY2w : IntKind.u64.wrap (Y2 : Int) = (Y2 : Int) := by rw [IntKind.wrap_u64]; omega
  have hqm : (q : Int) < (m' : Int) := by omega
  have hq0 : (0 : Int) ≤ (q : Int) := by omega
  have hX9' : (X : Int) - 9 = (X9 : Int) := hX9.symm
  clear hT3 hU3 hEq hen3 ho3 p0 p1 p2 p3 hX9 hXX hk0 hk1
  have hp3 := HT3.out.short.lt
  go_upto_region 5 with fail
  clear hw2
  go_region_held3 (fun w' => w'.cell? ⟨w.heap.size, 0, none⟩ = some (.int .i64 X) ∧ w'.cell? ⟨w.heap.size, 1, none⟩ = some (.int .u64 Y) ∧ w'.cell? ⟨w.heap.size + 1, 0, none⟩ = some (.int .i8 X) ∧ w'.cell? ⟨w.heap.size + 1, 1, none⟩ = some (.int .i16 s) ∧ w'.cell? ⟨p, 1024, none⟩ = some (.slice (some ⟨g, 0, none⟩) m' c3))
    (first | (refine ⟨?_, ?_, ?_, ?_, ?_⟩ <;> with_reducible assumption) | (go_keep; done))
    ((go_at_call 142; refine Calls.mono (HSP.out _ ((Below.refl _ _).drew)) ?_; rintro e w7 ⟨rfl, hE7, hO7⟩; have r0 := (World.cell?_of_block (w := w3.drew) (a := ⟨w.heap.size, 0, none⟩) (hO7.grown.block (w.heap.size) hl3 (by simp; omega))).trans q0; have r1 := (World.cell?_of_block (w := w3.drew) (a := ⟨w.heap.size, 1, none⟩) (hO7.grown.block (w.heap.size) hl3 (by simp; omega))).trans q1; have r2 := (World.cell?_of_block (w := w3.drew) (a := ⟨w.heap.size + 1, 0, none⟩) (hO7.grown.block (w.heap.size + 1) hl4 (by simp; omega))).trans q2; have r3 := (World.cell?_of_block (w := w3.drew) (a := ⟨w.heap.size + 1, 1, none⟩) (hO7.grown.block (w.heap.size + 1) hl4 (by simp; omega))).trans q3; have r4 := (World.cell?_of_block (w := w3.drew) (a := ⟨p, 1024, none⟩) (hO7.grown.block p hp3 (by simp; omega))).trans hc3))
  have hO8 : Only w3 w7 g (q * 128) (64 * 2) := (Only.below hgw ((Below.refl _ _).drew)).trans hO7
  have HF := hideH (Tab.long_set HT3.out hq hc3 hE7 hO8)
  have HBB : Hid (∀ B, B ≤ p → Below B w w7) := fun B hB => by
    have x1 := HB2.out.mono (show B ≤ w.heap.size by omega)
    have x2 : Below B w2 w3 := Upd.beneath (HT.out.below HB2.out) HU3.out hB
    have x3 := x1.trans x2
    exact x3.grown hO8.grown (by have := x3.size; omega) (fun k e => by simp at e; omega)
  clear hO8 hO7 hE7
  go_wp2_with fail
  go_end0
  exact ⟨rfl, HF.out, HBB.out⟩

end Go.Proofs.YtlffdadmgginmaeDoor
/-
  WHAT A TABLE OF CODES TELLS, symbol after symbol. No program.
-/
namespace Go.Proofs.YtlffdadmgginmaeDoor
open Go.RowKit
set_option linter.unusedVariables false

/-- The low bits of x are symbol s's code. -/
def Hit (zs : List Int) (s x : Nat) : Prop := Coded zs s ∧ x % 2 ^ ln zs s = tr (num zs s) (ln zs s)
theorem Hit.one {zs : List Int} (hk : SS zs 15 ≤ 32768) {s t x : Nat} (h : Hit zs s x) (h' : Hit zs t x) : s = t :=
  cov_one ((cov_iff h.1 hk x).1 h.2) ((cov_iff h'.1 hk x).1 h'.2)
/-- The table holds the codes of the symbols below k. -/
structure TI (zs : List Int) (k : Nat) (S : Nat → Nat × Nat) (m : Nat) (L : Nat → Nat → Nat × Nat) : Prop where
  fit : ∀ x, (∃ s, s < k ∧ Hit zs s x ∧ look S L x = (ln zs s, s)) ∨ ((∀ s, s < k → ¬ Hit zs s x) ∧ look S L x = (0, 0))
  l1 : ∀ i, (S i).1 ≤ 16
  l2 : ∀ i, (S i).1 = 16 → (S i).2 < m
  l3 : ∀ i, (S i).2 ≤ 320
  l4 : ∀ i j, (L i j).1 ≤ 15 ∧ (L i j).2 ≤ 320
  inj : ∀ i j, (S i).1 = 16 → (S j).1 = 16 → (S i).2 = (S j).2 → i = j
  most : m ≤ k
theorem TI.zero (zs : List Int) : TI zs 0 (fun _ => (0, 0)) 0 (fun _ _ => (0, 0)) := by
  refine ⟨fun x => .inr ⟨fun s hs => by omega, by simp [look]⟩, fun i => by simp, fun i h => by simp at h, fun i => by simp, fun i j => by simp, fun i j h => by simp at h, Nat.le_refl _⟩
/-- A symbol without a code. -/
theorem TI.skip {zs : List Int} {k m : Nat} {S : Nat → Nat × Nat} {L : Nat → Nat → Nat × Nat} (h : TI zs k S m L) (h0 : ln zs k = 0) : TI zs (k + 1) S m L := by
  refine { h with fit := fun x => ?_, most := by have := h.most; omega }
  rcases h.fit x with ⟨s, h1, h2, h3⟩ | ⟨h1, h2⟩
  · exact .inl ⟨s, by omega, h2, h3⟩
  · refine .inr ⟨fun s hs hh => ?_, h2⟩
    by_cases e : s = k
    · subst e
      have := hh.1.pos
      omega
    · exact h1 s (by omega) hh
theorem TI.none {zs : List Int} {k m : Nat} {S : Nat → Nat × Nat} {L : Nat → Nat → Nat × Nat} (h : TI zs k S m L) (hk : SS zs 15 ≤ 32768) {x : Nat} (hx : Hit zs k x) : look S L x = (0, 0) := by
  rcases h.fit x with ⟨s, h1, h2, _⟩ | ⟨_, h2⟩
  · have := h2.one hk hx
    omega
  · exact h2
/-- One more symbol, when the look changes just where its code is. -/
theorem TI.step {zs : List Int} {k m : Nat} {S S' : Nat → Nat × Nat} {L L' : Nat → Nat → Nat × Nat} (h : TI zs k S m L) (hk : SS zs 15 ≤ 32768) (hy : ∀ x, Hit zs k x → look S' L' x = (ln zs k, k)) (hn : ∀ x, ¬ Hit zs k x → look S' L' x = look S L x) (x : Nat) :
    (∃ s, s < k + 1 ∧ Hit zs s x ∧ look S' L' x = (ln zs s, s)) ∨ ((∀ s, s < k + 1 → ¬ Hit zs s x) ∧ look S' L' x = (0, 0)) := by
  by_cases hx : Hit zs k x
  · exact .inl ⟨k, by omega, hx, hy x hx⟩
  · rw [hn x hx]
    rcases h.fit x with ⟨s, h1, h2, h3⟩ | ⟨h1, h2⟩
    · exact .inl ⟨s, by omega, h2, h3⟩
    · refine .inr ⟨fun s hs hh => ?_, h2⟩
      by_cases e : s = k
      · subst e; exact hx hh
      · exact h1 s (by omega) hh
theorem TI.short {zs : List Int} {k m X Y : Nat} {S : Nat → Nat × Nat} {L : Nat → Nat → Nat × Nat} (h : TI zs k S m L) (hk : SS zs 15 ≤ 32768) (hc : Coded zs k) (hk2 : k ≤ 320) (hX : ln zs k = X) (hY : tr (num zs k) (ln zs k) = Y) (h9 : X ≤ 9) :
    TI zs (k + 1) (fun i => if i % 2 ^ X = Y then (X, k) else S i) m L := by
  have hm : ∀ x, x % 512 % 2 ^ X = x % 2 ^ X := fun x => mod_mod x X 9 h9
  have hHit : ∀ x, Hit zs k x ↔ x % 2 ^ X = Y := fun x => by
    unfold Hit
    rw [hY, hX]
    exact ⟨fun h => h.2, fun h => ⟨hc, h⟩⟩
  refine ⟨h.step hk (fun x hx => ?_) (fun x hx => ?_), fun i => ?_, fun i => ?_, fun i => ?_, h.l4, fun i j => ?_, by have := h.most; omega⟩
  · rw [hHit] at hx
    unfold look
    simp only [hm, hx, if_true]
    rw [if_neg (by omega), hX]
  · rw [hHit] at hx
    unfold look
    simp only [hm, hx, if_false]
  · try dsimp only
    split
    · show X ≤ 16; omega
    · exact h.l1 i
  · try dsimp only
    split
    · intro e; exfalso; have : X = 16 := e; omega
    · exact h.l2 i
  · try dsimp only
    split
    · exact hk2
    · exact h.l3 i
  · try dsimp only
    split
    · intro e; exfalso; have : X = 16 := e; omega
    · split
      · intro _ e; exfalso; have : X = 16 := e; omega
      · exact h.inj i j
/-- Bits of a long code. -/
theorem long_bits (x Y X : Nat) (h9 : 9 < X) (h15 : X ≤ 15) (hY : Y < 2 ^ X) : x % 2 ^ X = Y ↔ x % 512 = Y % 512 ∧ x / 512 % 64 % 2 ^ (X - 9) = Y / 512 := by
  have e64 : x / 512 % 64 % 2 ^ (X - 9) = x / 512 % 2 ^ (X - 9) := mod_mod (x / 512) (X - 9) 6 (by omega)
  have eP : 2 ^ X = 512 * 2 ^ (X - 9) := by
    rw [show X = 9 + (X - 9) from by omega, Nat.pow_add, show 9 + (X - 9) - 9 = X - 9 from by omega]
  rw [e64]
  rw [eP] at hY ⊢
  generalize 2 ^ (X - 9) = P at *
  have h1 : x % (512 * P) = x % 512 + 512 * (x / 512 % P) := Nat.mod_mul
  rw [h1]
  constructor
  · intro e
    have h2 : x % 512 < 512 := Nat.mod_lt _ (by decide)
    generalize x % 512 = a at *
    generalize x / 512 % P = b at *
    omega
  · rintro ⟨e1, e2⟩
    rw [e1, e2]
    omega
theorem TI.long_has {zs : List Int} {k m X Y : Nat} {S : Nat → Nat × Nat} {L : Nat → Nat → Nat × Nat} (h : TI zs k S m L) (hk : SS zs 15 ≤ 32768) (hc : Coded zs k) (hk2 : k ≤ 320) (hX : ln zs k = X) (hY : tr (num zs k) (ln zs k) = Y) (hYl : Y < 2 ^ X) (h9 : 9 < X) (h16 : (S (Y % 512)).1 = 16) :
    TI zs (k + 1) S m (fun j => if j = (S (Y % 512)).2 then fun i => if i % 2 ^ (X - 9) = Y / 512 then (X, k) else L (S (Y % 512)).2 i else L j) := by
  have h15 : X ≤ 15 := hX ▸ hc.most
  have hHit : ∀ x, Hit zs k x ↔ x % 512 = Y % 512 ∧ x / 512 % 64 % 2 ^ (X - 9) = Y / 512 := fun x => by
    rw [← long_bits x Y X h9 h15 hYl]
    unfold Hit
    rw [hY, hX]
    exact ⟨fun h => h.2, fun h => ⟨hc, h⟩⟩
  refine ⟨h.step hk (fun x hx => ?_) (fun x hx => ?_), h.l1, h.l2, h.l3, fun i j => ?_, h.inj, by have := h.most; omega⟩
  · obtain ⟨e1, e2⟩ := (hHit x).1 hx
    unfold look
    rw [e1, if_pos h16]
    dsimp only
    rw [if_pos rfl, if_pos e2, hX]
  · rw [hHit] at hx
    unfold look
    by_cases e16 : (S (x % 512)).1 = 16
    · rw [if_pos e16, if_pos e16]
      dsimp only
      by_cases eq : (S (x % 512)).2 = (S (Y % 512)).2
      · have e1 := h.inj _ _ e16 h16 eq
        rw [if_pos eq, if_neg (fun e2 => hx ⟨e1, e2⟩), eq]
      · rw [if_neg eq]
    · rw [if_neg e16, if_neg e16]
  · try dsimp only
    split
    · dsimp only
      split
      · exact ⟨h15, hk2⟩
      · exact h.l4 _ _
    · exact h.l4 _ _
theorem TI.long_new {zs : List Int} {k m X Y : Nat} {S : Nat → Nat × Nat} {L : Nat → Nat → Nat × Nat} (h : TI zs k S m L) (hk : SS zs 15 ≤ 32768) (hc : Coded zs k) (hk2 : k ≤ 320) (hX : ln zs k = X) (hY : tr (num zs k) (ln zs k) = Y) (hYl : Y < 2 ^ X) (h9 : 9 < X) (h16 : ¬ (S (Y % 512)).1 = 16) :
    TI zs (k + 1) (fun i => if i = Y % 512 then (16, m) else S i) (m + 1) (fun j => if j = m then fun i => if i % 2 ^ (X - 9) = Y / 512 then (X, k) else (0, 0) else L j) := by
  have h15 : X ≤ 15 := hX ▸ hc.most
  have hHit : ∀ x, Hit zs k x ↔ x % 512 = Y % 512 ∧ x / 512 % 64 % 2 ^ (X - 9) = Y / 512 := fun x => by
    rw [← long_bits x Y X h9 h15 hYl]
    unfold Hit
    rw [hY, hX]
    exact ⟨fun h => h.2, fun h => ⟨hc, h⟩⟩
  have h00 : S (Y % 512) = (0, 0) := by
    have h1 := h.none hk (x := Y) ⟨hc, by rw [hX, ← hX, hY, hX]; exact Nat.mod_eq_of_lt hYl⟩
    unfold look at h1
    rw [if_neg h16] at h1
    exact h1
  refine ⟨h.step hk (fun x hx => ?_) (fun x hx => ?_), fun i => ?_, fun i => ?_, fun i => ?_, fun i j => ?_, fun i j => ?_, by have := h.most; omega⟩
  · obtain ⟨e1, e2⟩ := (hHit x).1 hx
    unfold look
    simp only [e1, if_true, e2, hX]
  · rw [hHit] at hx
    unfold look
    by_cases e1 : x % 512 = Y % 512
    · have e2 : ¬ x / 512 % 64 % 2 ^ (X - 9) = Y / 512 := fun e2 => hx ⟨e1, e2⟩
      simp only [e1, if_true, e2, if_false, h00]
      simp
    · simp only [e1, if_false]
      by_cases e16 : (S (x % 512)).1 = 16
      · have := h.l2 _ e16
        rw [if_pos e16, if_pos e16, if_neg (by omega)]
      · rw [if_neg e16, if_neg e16]
  · try dsimp only
    split
    · exact Nat.le_refl _
    · exact h.l1 i
  · try dsimp only
    split
    · intro _; show m < m + 1; omega
    · intro e; have := h.l2 i e; omega
  · try dsimp only
    split
    · show m ≤ 320; have := h.most; omega
    · exact h.l3 i
  · try dsimp only
    split
    · dsimp only
      split
      · exact ⟨h15, hk2⟩
      · exact ⟨Nat.zero_le _, Nat.zero_le _⟩
    · exact h.l4 _ _
  · try dsimp only
    by_cases ei : i = Y % 512
    · by_cases ej : j = Y % 512
      · intro _ _ _; omega
      · rw [if_pos ei, if_neg ej]
        intro _ e1 e2
        have h1 := h.l2 j e1
        have h2 : m = (S j).2 := e2
        omega
    · by_cases ej : j = Y % 512
      · rw [if_neg ei, if_pos ej]
        intro e1 _ e2
        have h1 := h.l2 i e1
        have h2 : (S i).2 = m := e2
        omega
      · rw [if_neg ei, if_neg ej]
        exact h.inj i j
/-- What the whole table answers. -/
theorem TI.ans {zs : List Int} {m b n k s l : Nat} {S : Nat → Nat × Nat} {L : Nat → Nat → Nat × Nat} (h : TI zs zs.length S m L) (hk : SS zs 15 ≤ 32768) (ha : AnsT (look S L (b % 2 ^ n)) n k s l) : Ans zs b n k s l := by
  rcases h.fit (b % 2 ^ n) with ⟨i, h1, h2, h3⟩ | ⟨h1, h2⟩
  · rw [h3] at ha
    have hc := (cov_iff h2.1 hk (b % 2 ^ n)).1 h2.2
    have hp := h2.1.pos
    unfold AnsT at ha
    rw [if_neg (by show ¬ ln zs i = 0; omega)] at ha
    by_cases hn : n < ln zs i
    · rw [if_pos hn] at ha
      exact .inr (.inl ⟨i, hc, hn, ha⟩)
    · rw [if_neg hn] at ha
      exact .inl ⟨i, hc, by omega, ha⟩
  · rw [h2] at ha
    unfold AnsT at ha
    rw [if_pos rfl] at ha
    refine .inr (.inr ⟨fun i hc => ?_, ha⟩)
    exact h1 i hc.1.lt ⟨hc.1, (cov_iff hc.1 hk (b % 2 ^ n)).2 hc⟩
end Go.Proofs.YtlffdadmgginmaeDoor
namespace Go.Proofs.YtlffdadmgginmaeDoor
open Go.RowKit
attribute [local go_sem ↓] Go.wp_at_zero Go.wp_at_succ
set_option linter.unusedVariables false

theorem Upd.refl (w : World) (p : Nat) : Upd w w p := ⟨rfl, rfl, rfl, Nat.le_refl _, fun _ _ _ _ => rfl⟩
theorem put_any (zs : List Int) (k p m : Nat) (S : Nat → Nat × Nat) (L : Nat → Nat → Nat × Nat) (w : World) (hT : Tab w p S m L) (hI : TI zs k S m L) (hc : Coded zs k) (hk : SS zs 15 ≤ 32768) (hn : zs.length ≤ 320) :
    Calls Tryd.prog 138 #[.pointer (some ⟨p, 0, none⟩), .int .i16 k, .agg #[.int .i64 (ln zs k : Nat), .int .u64 (tr (num zs k) (ln zs k) : Nat)]] w fun e w' => e = .returned (.tuple #[]) ∧ (∃ S' m' L', Tab w' p S' m' L' ∧ TI zs (k + 1) S' m' L') ∧ ∀ B, B ≤ p → Below B w w' := by
  have hkl := hc.lt
  have hYl := num_lt hc hk
  have hpos := hc.pos
  have hmost := hc.most
  obtain ⟨X, hX⟩ : ∃ X, ln zs k = X := ⟨_, rfl⟩
  obtain ⟨Y, hY⟩ : ∃ Y, tr (num zs k) (ln zs k) = Y := ⟨_, rfl⟩
  have hYX : Y < 2 ^ X := by rw [← hY, ← hX]; exact tr_lt _ _
  have hIm := hI.most
  rw [hY]
  by_cases h9 : X ≤ 9
  · rw [hX]
    refine Calls.mono (put_short p m k X Y (2 ^ X) S L w hT (by omega) (by omega) h9 rfl hYX) ?_
    rintro e w' ⟨rfl, hT', hU⟩
    exact ⟨rfl, ⟨_, _, _, hT', hI.short hk hc (by omega) hX hY h9⟩, fun B hB => Upd.beneath hT hU hB⟩
  · have hP15 : 2 ^ X ≤ 2 ^ 15 := Nat.pow_le_pow_right (by decide) (by omega)
    have eP : 2 ^ X = 512 * 2 ^ (X - 9) := by
      rw [show X = 9 + (X - 9) from by omega, Nat.pow_add, show 9 + (X - 9) - 9 = X - 9 from by omega]
    have hY2 : Y / 512 < 2 ^ (X - 9) := by rw [eP] at hYX; omega
    rw [hX]
    by_cases h16 : (S (Y % 512)).1 = 16
    · refine Calls.mono (put_long p m k X Y (2 ^ (X - 9)) (Y % 512) (Y / 512) (S (Y % 512)).2 m S S L L w hT (by omega) (by omega) (by omega) rfl (by omega) rfl rfl hY2 (hI.l2 _ h16) (by omega) ?_) ?_
      · intro W hW
        refine Calls.mono (link_has p m (Y % 512) S L W hW (by omega) h16 (by have := hI.l3 (Y % 512); omega)) ?_
        rintro e w' ⟨rfl, rfl⟩
        exact ⟨rfl, hW, Upd.refl _ _⟩
      · rintro e w' ⟨rfl, hT', hB⟩
        exact ⟨rfl, ⟨_, _, _, hT', hI.long_has hk hc (by omega) hX hY hYX (by omega) h16⟩, hB⟩
    · refine Calls.mono (put_long p m k X Y (2 ^ (X - 9)) (Y % 512) (Y / 512) m (m + 1) S (fun i => if i = Y % 512 then (16, m) else S i) L (fun j => if j = m then fun _ => (0, 0) else L j) w hT (by omega) (by omega) (by omega) rfl (by omega) rfl rfl hY2 (by omega) (by omega) ?_) ?_
      · intro W hW
        exact link_new p m (Y % 512) S L W hW (by omega) (by omega) h16 (hI.l1 _) (by have := hI.l3 (Y % 512); omega)
      · rintro e w' ⟨rfl, hT', hB⟩
        have e1 : (fun j => if j = m then fun i => if i % 2 ^ (X - 9) = Y / 512 then (X, k) else (if m = m then fun _ => (0, 0) else L m) i else (if j = m then fun _ => (0, 0) else L j)) = (fun j => if j = m then fun i => if i % 2 ^ (X - 9) = Y / 512 then (X, k) else (0, 0) else L j) := by
          funext j
          by_cases h : j = m
          · rw [if_pos h, if_pos h, if_pos rfl]
          · rw [if_neg h, if_neg h, if_neg h]
        exact ⟨rfl, ⟨_, _, _, hT', by rw [e1]; exact hI.long_new hk hc (by omega) hX hY hYX (by omega) h16⟩, hB⟩

theorem zeroTab_eq : Tryd.zeroCells222.toList = zz 512 ++ [.slice none 0 0] := by kernel_rfl
theorem Tab.new (w : World) (t : TypeId) : Tab (w.alloc (.cells Tryd.zeroCells222 t)) w.heap.size (fun _ => (0, 0)) 0 (fun _ _ => (0, 0)) := by
  have hl := zz_len 512
  have hat : ∀ j u, (zz 512 ++ [.slice none 0 0])[j]? = some u → (w.alloc (.cells Tryd.zeroCells222 t)).cell? ⟨w.heap.size, j, none⟩ = some u := fun j u h => by
    have h2 := alloc_at w Tryd.zeroCells222 t j u (by rw [zeroTab_eq]; exact h)
    rw [Addr.add_lit, Nat.zero_add] at h2
    exact h2
  refine ⟨⟨by simp, fun i hi => ?_, fun i hi => ?_, fun o => by simp [go_sem]⟩, none, 0, [], ?_, World.ownsRow_nil _ _ _ _, fun j hj => by omega⟩
  · refine hat _ _ ?_
    rw [Nat.zero_add, List.getElem?_append_left (by omega)]
    exact (zz_at 512 i hi).1
  · refine hat _ _ ?_
    rw [Nat.zero_add, List.getElem?_append_left (by omega)]
    exact (zz_at 512 i hi).2
  · refine hat _ _ ?_
    rw [List.getElem?_append_right (by omega), hl]
    rfl
set_option maxRecDepth 100000 in
set_option maxHeartbeats 6400000 in
theorem newTab_any (zs : List Int) (ao : Option Addr) (cap n : Nat) (w : World) (hR : Reads w ao n (code zs)) (hn : n = zs.length) (hn3 : zs.length ≤ 320) (ho : okL zs) (hk : SS zs 15 ≤ 32768) :
    Calls Tryd.prog 125 #[.slice ao n cap] w fun e w' => ∃ p S m L, e = .returned (.pointer (some ⟨p, 0, none⟩)) ∧ w.heap.size ≤ p ∧ Tab w' p S m L ∧ TI zs n S m L ∧ Below w.heap.size w w' := by
  have HT0 := hideH (Tab.new w 222)
  have HB0 : Hid (Below w.heap.size w (w.alloc (.cells Tryd.zeroCells222 222))) := (Below.refl _ _).alloc (Nat.le_refl _) _
  have HN := hideH hn
  have HR := hideH hR
  have HK := hideH hk
  have HOK := hideH ho
  have hn4 : n ≤ 320 := by omega
  clear hn hR hk ho
  go_enter Tryd.func125, Tryd.ntmps125
  go_wp2_with fail
  go_loopw [10] (fun i wr => ∃ k : Nat, k ≤ n ∧ i = .int .i64 k ∧ Hid (∃ S m L, Tab wr w.heap.size S m L ∧ TI zs k S m L) ∧ Hid (Below w.heap.size w wr)) (fun i _ => n - (intOf i).toNat)
  case atStart => exact ⟨0, Nat.zero_le _, rfl, ⟨_, _, _, HT0.out, TI.zero zs⟩, HB0⟩
  case round =>
    clear HT0 HB0
    obtain ⟨k, hkn, rfl, HX, HB⟩ := hrel
    by_cases hlt : k < n
    · obtain ⟨g, rfl, hC⟩ := HR.out (by omega)
      obtain ⟨S, m, L, hT, hI⟩ := HX.out
      have hgw : g < w.heap.size := World.block_lt_of_cell? w _ (hC.at0 k hlt)
      have c0 := (HB.out.cell (p := ⟨g, k * 2, none⟩) hgw).trans (hC.at0 k hlt)
      have c1 := (HB.out.cell (p := ⟨g, k * 2 + 1, none⟩) hgw).trans (hC.at1 k hlt)
      have hkw := wrap_i16 k (by omega)
      by_cases h0 : ln zs k = 0
      · have hc0 : code zs k = (0, 0) := by rw [code_ln, if_pos h0]
        rw [hc0] at c0 c1
        have HB2 : Hid (∀ A t, Below w.heap.size w (wr.alloc (.cells A t))) := fun A t => HB.out.trans (((Below.refl _ _).alloc (Nat.le_refl _) _).mono HB.out.size)
        have HX2 : Hid (∀ A t, ∃ S m L, Tab (wr.alloc (.cells A t)) w.heap.size S m L ∧ TI zs (k + 1) S m L) := fun A t => ⟨S, m, L, hT.below ((Below.refl _ _).alloc (Nat.le_refl _) _), hI.skip h0⟩
        clear hT hI hC HX h0 hc0
        go_wp2_with fail
        exact ⟨⟨k + 1, by omega, by go_num, HX2.out _ _, HB2.out _ _⟩, by simp [intOf]; omega⟩
      · have hc : Coded zs k := Coded.of HOK.out (by have := HN.out; omega) h0
        have hcc : code zs k = (ln zs k, tr (num zs k) (ln zs k)) := by rw [code_ln, if_neg h0]
        rw [hcc] at c0 c1
        have HP := hideH (fun A t => put_any zs k w.heap.size m S L (wr.alloc (.cells A t)) (hT.below ((Below.refl _ _).alloc (Nat.le_refl _) _)) hI hc HK.out hn3)
        have hX0 : (0 : Int) < (ln zs k : Int) := by have := hc.pos; omega
        dsimp only at c0 c1
        have HB2 : Hid (∀ A t, Below w.heap.size w (wr.alloc (.cells A t))) := fun A t => HB.out.trans (((Below.refl _ _).alloc (Nat.le_refl _) _).mono HB.out.size)
        generalize ln zs k = X at *
        generalize tr (num zs k) X = Y at *
        clear hT hI hC HX h0 hcc hc
        go_wp2_with fail
        refine Calls.mono (HP.out _ _) ?_
        rintro e w' ⟨rfl, hX, hB⟩
        have HB3 := hideH ((HB2.out _ _).trans (hB w.heap.size (Nat.le_refl _)))
        have HX3 := hideH hX
        clear hX hB
        go_wp2_with fail
        exact ⟨⟨k + 1, by omega, by go_num, HX3, HB3⟩, by simp [intOf]; omega⟩
    · have e : k = n := by omega
      subst e
      obtain ⟨S, m, L, hT, hI⟩ := HX.out
      have HT := hideH hT
      have HI := hideH hI
      clear hT hI
      go_wp2_with fail
      go_ret
      exact ⟨w.heap.size, S, m, L, rfl, Nat.le_refl _, HT.out, HI.out, HB.out⟩
end Go.Proofs.YtlffdadmgginmaeDoor
namespace Go.Proofs.YtlffdadmgginmaeDoor
open Go.RowKit
attribute [local go_sem ↓] Go.wp_at_zero Go.wp_at_succ
set_option linter.unusedVariables false

/-- A table that answers for zs. -/
structure TabOf (zs : List Int) (w : World) (p : Nat) (S : Nat → Nat × Nat) (m : Nat) (L : Nat → Nat → Nat × Nat) : Prop where
  tab : Tab w p S m L
  l1 : ∀ i, (S i).1 ≤ 16
  l2 : ∀ i, (S i).1 = 16 → (S i).2 < m
  l3 : ∀ i, (S i).2 ≤ 320
  l4 : ∀ i j, (L i j).1 ≤ 15 ∧ (L i j).2 ≤ 320
  ans : ∀ b n k s l : Nat, n ≤ 64 → AnsT (look S L (b % 2 ^ n)) n k s l → AnsN zs b n k s l
theorem newTab_of (zs : List Int) (ao : Option Addr) (cap : Nat) (w : World) (hR : Reads w ao (nC zs) (code zs)) :
    Calls Tryd.prog 125 #[.slice ao (nC zs) cap] w fun e w' => ∃ p S m L, e = .returned (.pointer (some ⟨p, 0, none⟩)) ∧ w.heap.size ≤ p ∧ TabOf zs w' p S m L ∧ Below w.heap.size w w' := by
  by_cases hok : okC zs = true
  · obtain ⟨h1, h2, h3⟩ := okC_out hok
    have hnC : nC zs = zs.length := by simp [nC, hok]
    rw [hnC] at hR ⊢
    refine Calls.mono (newTab_any zs ao cap zs.length w hR rfl h2 h1 h3) ?_
    rintro e w' ⟨p, S, m, L, rfl, hp, hT, hI, hB⟩
    exact ⟨p, S, m, L, rfl, hp, ⟨hT, hI.l1, hI.l2, hI.l3, hI.l4, fun b n k s l hn ha => AnsN.yes hok hn (hI.ans h3 ha)⟩, hB⟩
  · have hnC : nC zs = 0 := by simp [nC, hok]
    rw [hnC]
    refine Calls.mono (newTab_any [] ao cap 0 w (fun h => by omega) rfl (by simp) (fun z hz => by cases hz) (by decide +kernel)) ?_
    rintro e w' ⟨p, S, m, L, rfl, hp, hT, hI, hB⟩
    refine ⟨p, S, m, L, rfl, hp, ⟨hT, hI.l1, hI.l2, hI.l3, hI.l4, fun b n k s l hn ha => ?_⟩, hB⟩
    rcases hI.fit (b % 2 ^ n) with ⟨t, h1, _⟩ | ⟨_, h1⟩
    · omega
    · rw [h1] at ha
      unfold AnsT at ha
      rw [if_pos rfl] at ha
      obtain ⟨rfl, rfl, rfl⟩ := ha
      exact AnsN.no (fun h => hok h.1)
theorem TabOf.next (zs : List Int) (p m b n : Nat) (S : Nat → Nat × Nat) (L : Nat → Nat → Nat × Nat) (w : World) (h : TabOf zs w p S m L) (hb : b < 2 ^ 64) (hn : n ≤ 64) :
    Calls Tryd.prog 144 #[.pointer (some ⟨p, 0, none⟩), .int .u64 b, .int .i64 n] w fun e w' => (∃ k s l : Nat, e = .returned (.agg #[.int .i64 k, .int .i64 s, .int .i64 l]) ∧ AnsN zs b n k s l) ∧ Below w.heap.size w w' := by
  refine Calls.mono (tnext_any p m b n 0 (b % 2 ^ n) S L w h.tab hb hn rfl h.l1 h.l2 h.l3 h.l4) ?_
  rintro e w' ⟨⟨k, s, l, rfl, ha⟩, hB⟩
  exact ⟨⟨k, s, l, rfl, h.ans b n k s l hn ha⟩, hB⟩

end Go.Proofs.YtlffdadmgginmaeDoor
namespace Go.Proofs.YtlffdadmgginmaeDoor
open Go.RowKit
attribute [local go_sem ↓] Go.wp_at_zero Go.wp_at_succ
set_option linter.unusedVariables false

/-- Whether the symbol i has a code that the next fifteen bits, as a number, fall under. -/
def covB (ls : List Int) (X i : Nat) : Bool := decide (ls.getD i 0 = (ln ls i : Int)) && decide (1 ≤ ln ls i) && decide (ln ls i ≤ 15) && decide (bg ls i ≤ X) && decide (X < bg ls i + 2 ^ (15 - ln ls i))
theorem covB_iff {ls : List Int} {X i : Nat} (hi : i < ls.length) : covB ls X i = true ↔ cov ls i X := by
  unfold covB cov
  simp only [Bool.and_eq_true, decide_eq_true_eq]
  exact ⟨fun h => ⟨⟨hi, h.1.1.1.1, h.1.1.1.2, h.1.1.2⟩, h.1.2, h.2⟩, fun h => ⟨⟨⟨⟨h.1.is, h.1.pos⟩, h.1.most⟩, h.2.1⟩, h.2.2⟩⟩
/-- What the next bits say by the code of ls: kind, symbol, length. -/
def nx3 (ls : List Int) (b n : Nat) : Nat × Nat × Nat :=
  if okC ls = true ∧ n ≤ 64 then
    match (List.range ls.length).find? (covB ls (tr (b % 2 ^ n) 15)) with
    | some i => if ln ls i ≤ n then (1, i, ln ls i) else (2, 0, 0)
    | none => (0, 0, 0)
  else (0, 0, 0)
theorem nx3_some {ls : List Int} {b n i : Nat} (h1 : okC ls = true) (h2 : n ≤ 64) (h : cov ls i (tr (b % 2 ^ n) 15)) : nx3 ls b n = if ln ls i ≤ n then (1, i, ln ls i) else (2, 0, 0) := by
  unfold nx3
  rw [if_pos ⟨h1, h2⟩]
  cases hf : (List.range ls.length).find? (covB ls (tr (b % 2 ^ n) 15)) with
  | none =>
    rw [List.find?_eq_none] at hf
    exact absurd ((covB_iff h.1.lt).2 h) (hf i (List.mem_range.2 h.1.lt))
  | some j =>
    have hj := List.find?_some hf
    have hm := List.mem_range.1 (List.mem_of_find?_eq_some hf)
    have e := cov_one h ((covB_iff hm).1 hj)
    subst e
    rfl
theorem nx3_of {ls : List Int} {b n k s l : Nat} (h : AnsN ls b n k s l) : nx3 ls b n = (k, s, l) := by
  unfold AnsN at h
  by_cases hc : okC ls = true ∧ (0 : Int) ≤ (n : Int) ∧ (n : Int) ≤ 64
  · rw [if_pos hc, Int.toNat_natCast] at h
    have h64 : n ≤ 64 := by omega
    rcases h with ⟨i, h1, h2, rfl, rfl, rfl⟩ | ⟨i, h1, h2, rfl, rfl, rfl⟩ | ⟨h0, rfl, rfl, rfl⟩
    · rw [nx3_some hc.1 h64 h1, if_pos h2]
    · rw [nx3_some hc.1 h64 h1, if_neg (by omega)]
    · unfold nx3
      rw [if_pos ⟨hc.1, h64⟩]
      cases hf : (List.range ls.length).find? (covB ls (tr (b % 2 ^ n) 15)) with
      | none => rfl
      | some j =>
        have hj := List.find?_some hf
        have hm := List.mem_range.1 (List.mem_of_find?_eq_some hf)
        exact absurd ((covB_iff hm).1 hj) (h0 j)
  · rw [if_neg hc] at h
    unfold nx3
    rw [if_neg (fun x => hc ⟨x.1, by omega, by omega⟩), h.1, h.2.1, h.2.2]
theorem nx3_is (ls : List Int) (b n : Nat) : AnsN ls b n (nx3 ls b n).1 (nx3 ls b n).2.1 (nx3 ls b n).2.2 := by
  by_cases hc : okC ls = true ∧ n ≤ 64
  · refine AnsN.yes hc.1 hc.2 ?_
    by_cases hx : ∃ i, cov ls i (tr (b % 2 ^ n) 15)
    · obtain ⟨i, hi⟩ := hx
      rw [nx3_some hc.1 hc.2 hi]
      by_cases hn : ln ls i ≤ n
      · rw [if_pos hn]
        exact .inl ⟨i, hi, hn, rfl, rfl, rfl⟩
      · rw [if_neg hn]
        exact .inr (.inl ⟨i, hi, by omega, rfl, rfl, rfl⟩)
    · have h0 : ∀ i, ¬ cov ls i (tr (b % 2 ^ n) 15) := fun i hi => hx ⟨i, hi⟩
      rw [nx3_of (AnsN.yes hc.1 hc.2 (.inr (.inr ⟨h0, rfl, rfl, rfl⟩)))]
      exact .inr (.inr ⟨h0, rfl, rfl, rfl⟩)
  · have h : AnsN ls b n 0 0 0 := AnsN.no (fun x => hc ⟨x.1, by omega⟩)
    rw [nx3_of h]
    exact h
theorem AnsN.len {ls : List Int} {b n s l : Nat} (h : AnsN ls b n 1 s l) : l ≤ n ∧ s ≤ 320 := by
  unfold AnsN at h
  split at h
  · rename_i hc
    rcases h with ⟨i, h1, h2, _, h3, h4⟩ | ⟨i, _, _, h3, _⟩ | ⟨_, h3, _⟩
    · have h5 := (okC_out hc.1).2.1
      have h6 := h1.1.lt
      rw [Int.toNat_natCast] at h2
      omega
    · omega
    · omega
  · omega
theorem Rd.seen {w : World} {p hB : Nat} {zs : List Int} {i : Nat} (h : Rd w p hB zs i) : ∃ ao cap, Src w p (.slice ao (zs.length - i / 8) cap) ((i % 8 : Nat) : Int) (i : Int) := by
  obtain ⟨_, _, ao, cap, hs, _⟩ := h
  rw [List.length_drop] at hs
  exact ⟨ao, cap, hs⟩
theorem rd_peek (p hB : Nat) (zs : List Int) (i n : Nat) (w : World) (h : Rd w p hB zs i) (hz : Octets zs) (hzl : zs.length ≤ 65536) (n1 : n ≤ 32) (hn : i + n ≤ 8 * zs.length) :
    Calls Tryd.prog 96 #[.agg #[.pointer (some ⟨p, 0, none⟩)], .int .i64 n] w fun e w' => e = .returned (.int .u64 (field (bnum zs) i n : Nat)) ∧ Below w.heap.size w w' := by
  obtain ⟨hl, hne, ao, cap, hs, hr, hc, hb⟩ := h
  refine Calls.mono (peek_any p ao cap (zs.drop (i / 8)) ((i % 8 : Nat) : Int) (i : Int) n w hs hr (hz.drop _) hc (by rw [List.length_drop]; omega) (by omega) (by omega) n1 (by rw [List.length_drop]; omega)) ?_
  rintro e w' ⟨rfl, h2⟩
  refine ⟨?_, h2⟩
  rw [Int.toNat_natCast, field_drop zs hz i n hl]
theorem rd_pass (p hB : Nat) (zs : List Int) (i n : Nat) (w : World) (h : Rd w p hB zs i) (hzl : zs.length ≤ 65536) (hn : i + n ≤ 8 * zs.length) :
    Calls Tryd.prog 23 #[.pointer (some ⟨p, 0, none⟩), .int .i64 n] w fun e w' => e = .returned (.tuple #[]) ∧ Rd w' p hB zs (i + n) ∧ w.grownBy w' (some p) := by
  obtain ⟨hl, hne, ao, cap, hs, hr, hc, hb⟩ := h
  refine Calls.mono (pass_any p ao (zs.drop (i / 8)).length cap ((i % 8 : Nat) : Int) (i : Int) n w hs (by rw [List.length_drop]; omega) (by omega) (by omega) (by omega) (by omega) (by omega) (by rw [List.length_drop]; omega)) ?_
  rintro e w' ⟨rfl, hs', hg, _⟩
  exact ⟨rfl, Rd.moved hn hs' hr hc hne hb hg, hg⟩
/-- What symbol answers. -/
def SymPost (p hB : Nat) (zs : List Int) (i : Nat) (t : Nat × Nat × Nat) (e : Ending) (w w' : World) : Prop :=
  (t.1 = 1 → e = .returned (.tuple #[.int .i64 (t.2.1 : Nat), .nilIface]) ∧ Rd w' p hB zs (i + t.2.2) ∧ w.grownBy w' (some p)) ∧ (t.1 = 2 → e = .returned (.tuple #[.int .i64 0, flt 2]) ∧ Below w.heap.size w w') ∧ (t.1 = 0 → e = .returned (.tuple #[.int .i64 0, flt 3]) ∧ Below w.heap.size w w')
theorem AnsN.kinds {ls : List Int} {b n k s l : Nat} (h : AnsN ls b n k s l) : k = 0 ∨ k = 1 ∨ k = 2 := by
  unfold AnsN at h
  split at h
  · rcases h with ⟨i, _, _, h3, _⟩ | ⟨i, _, _, h3, _⟩ | ⟨_, h3, _⟩
    · exact .inr (.inl h3)
    · exact .inr (.inr h3)
    · exact .inl h3
  · exact .inl h.1
theorem TabOf.below {ls : List Int} {w w' : World} {t m : Nat} {S : Nat → Nat × Nat} {L : Nat → Nat → Nat × Nat} (h : TabOf ls w t S m L) (hb : Below w.heap.size w w') : TabOf ls w' t S m L := { h with tab := h.tab.below hb }
set_option maxRecDepth 100000 in
set_option maxHeartbeats 3200000 in
theorem symbol_any (q p hB t m : Nat) (S : Nat → Nat × Nat) (L : Nat → Nat → Nat × Nat) (ls zs : List Int) (i n : Nat) (w : World) (hm : w.cell? ⟨q, 0, none⟩ = some (.pointer (some ⟨p, 0, none⟩))) (hqp : q ≠ p) (h : Rd w p hB zs i) (hT : TabOf ls w t S m L) (hz : Octets zs) (hzl : zs.length ≤ 65536)
    (hn : Nat.min (8 * zs.length - i) 15 = n) :
    Calls Tryd.prog 139 #[.pointer (some ⟨q, 0, none⟩), .pointer (some ⟨t, 0, none⟩)] w fun e w' => SymPost p hB zs i (nx3 ls (field (bnum zs) i n) n) e w w' := by
  have hle := h.le
  have hn1 : n ≤ 15 := by rw [← hn]; exact Nat.min_le_right _ _
  have hn2 : n ≤ 8 * zs.length - i := by rw [← hn]; exact Nat.min_le_left _ _
  obtain ⟨ao, cap, s0, s1, s2, _⟩ := h.seen
  obtain ⟨Lh, hLh⟩ : ∃ x, zs.length - i / 8 = x := ⟨_, rfl⟩
  obtain ⟨A, hA⟩ : ∃ x, i % 8 = x := ⟨_, rfl⟩
  have hmin : min (8 * (Lh : Int) - (A : Int)) 15 = (n : Int) := by rw [← hn]; have e : Nat.min (8 * zs.length - i) 15 = min (8 * zs.length - i) 15 := rfl; omega
  have hLb : Lh ≤ 65536 := by omega
  have hAb : A ≤ 7 := by omega
  rw [hLh] at s0
  rw [hA] at s1
  have hF : field (bnum zs) i n < 2 ^ 64 := Nat.lt_of_lt_of_le (field_lt _ _ _) (Nat.pow_le_pow_right (by decide) (by omega))
  have HP := hideM (rd_peek p hB zs i n w.drew (h.below ((Below.refl _ _).drew)) hz hzl (by omega) (by omega))
  have hqw : q < w.heap.size := World.block_lt_of_cell? w _ hm
  have hpw : p < w.heap.size := World.block_lt_of_cell? w _ s0
  have HT := hideM hT
  have HR := hideM h
  have HZL : Hid (zs.length ≤ 65536 ∧ n ≤ 8 * zs.length - i ∧ i ≤ 8 * zs.length) := ⟨hzl, hn2, hle⟩
  generalize field (bnum zs) i n = F at *
  clear hT h hn hLh hA hle hn2 hz hzl
  go_enter Tryd.func139, Tryd.ntmps139
  go_upto_region 1 with fail
  go_region
  go_wp2_with fail
  refine Calls.mono HP.out ?_
  rintro e w1 ⟨rfl, hb1⟩
  have hB1 : Below w.heap.size w w1 := ((Below.refl _ _).drew).trans hb1
  have HB1 := hideM hB1
  have HN := hideM ((HT.out.below hB1).next ls t m F n S L w1 hF (by omega))
  clear hb1 hB1 HP
  go_wp2_with fail
  refine Calls.mono HN.out ?_
  rintro e w2 ⟨⟨k, s', l, rfl, ha⟩, hb2⟩
  have hB2 := HB1.out.trans (hb2.mono HB1.out.size)
  have HX := hideM (nx3_of ha)
  have hkk := ha.kinds
  have HLN : Hid (k = 1 → l ≤ n ∧ s' ≤ 320) := fun e => by subst e; exact ha.len
  have hba : Below w2.heap.size w2 (w2.alloc (.cells #[.int .i64 k, .int .i64 s', .int .i64 l] 128)) := (Below.refl _ _).alloc (Nat.le_refl _) _
  have hB3 := hB2.trans (hba.mono hB2.size)
  have HB3 := hideM hB3
  obtain ⟨x0, x1, x2, _⟩ := res3_new w2 (k : Int) (s' : Int) (l : Int) 128
  have m3 := (hB3.cell (p := ⟨q, 0, none⟩) hqw).trans hm
  have HR3 := hideM (HR.out.below hB3)
  have hs3 : w2.heap.size < (w2.alloc (.cells #[.int .i64 k, .int .i64 s', .int .i64 l] 128)).heap.size := by simp
  have hw2 : w.heap.size ≤ w2.heap.size := hB2.size
  obtain ⟨w3, hw3⟩ : ∃ w3, w2.alloc (.cells #[.int .i64 k, .int .i64 s', .int .i64 l] 128) = w3 := ⟨_, rfl⟩
  rw [hw3] at HB3 x0 x1 x2 m3 HR3 hs3
  have X0 := hideM x0
  have X1 := hideM x1
  have X2 := hideM x2
  clear ha hb2 hB2 hba hB3 HB1 HN s0 s1 s2 hmin hm HT HR x0 x1 x2
  go_upto_region 3 with fail
  have x0 := X0.out
  have x1 := X1.out
  have x2 := X2.out
  clear hw3 X0 X1 X2
  have hpx : w2.heap.size ≠ p := by omega
  rcases hkk with rfl | rfl | rfl
  · have HQ : Hid (SymPost p hB zs i (nx3 ls F n) (.returned (.tuple #[.int .i64 0, flt 3])) w w3) := by
      rw [HX.out]
      exact ⟨(fun e => absurd e (by decide : ¬ ((0:Nat) = 1))), (fun e => absurd e (by decide : ¬ ((0:Nat) = 2))), (fun _ => ⟨rfl, HB3.out⟩)⟩
    go_wp2_with fail
    exact bodyPost_ret (v := .tuple #[.int .i64 0, flt 3]) (by simp [results, Tryd.results139, go_sem, flt]) rfl HQ.out
  · obtain ⟨hl, hs'⟩ := HLN.out rfl
    have HPS := hideM (fun W (hb : Below w3.heap.size w3 W) => rd_pass p hB zs i l W (HR3.out.below hb) HZL.out.1 (by have := HZL.out; omega))
    go_upto_region 8 with fail
    go_region_held3 (fun w' => w'.cell? ⟨q, 0, none⟩ = some (.pointer (some ⟨p, 0, none⟩)) ∧ w'.cell? ⟨w2.heap.size, 2, none⟩ = some (.int .i64 l))
      (first | (refine ⟨?_, ?_⟩ <;> with_reducible assumption) | (go_keep; done))
      ((go_at_call 23; refine Calls.mono (HPS.out _ ((Below.refl _ _).drew)) ?_; rintro e w7 ⟨rfl, hR7, hg7⟩; have q0 := hg7.cell (show w3.drew.cell? ⟨q, 0, none⟩ = some (.pointer (some ⟨p, 0, none⟩)) from m3) (by simp; omega); have q1 := hg7.cell (show w3.drew.cell? ⟨w2.heap.size, 1, none⟩ = some (.int .i64 s') from x1) (by simp; omega); have q2 := hg7.cell (show w3.drew.cell? ⟨w2.heap.size, 2, none⟩ = some (.int .i64 l) from x2) (by simp; omega)))
    have hg8 : w.grownBy w7 (some p) := grownBy_trans (grownBy_of_below (HB3.out.drew) (some p)) hg7
    have HQ : Hid (SymPost p hB zs i (nx3 ls F n) (.returned (.tuple #[.int .i64 s', .nilIface])) w w7) := by
      rw [HX.out]
      exact ⟨(fun _ => ⟨rfl, hR7, hg8⟩), (fun e => absurd e (by decide : ¬ ((1:Nat) = 2))), (fun e => absurd e (by decide : ¬ ((1:Nat) = 0)))⟩
    have hsz7 := hg7.size
    clear hg7 hg8 hR7
    go_wp2_with fail
    exact bodyPost_ret (v := .tuple #[.int .i64 s', .nilIface]) (by simp [results, Tryd.results139, go_sem]) rfl HQ.out
  · have HQ : Hid (SymPost p hB zs i (nx3 ls F n) (.returned (.tuple #[.int .i64 0, flt 2])) w w3) := by
      rw [HX.out]
      exact ⟨(fun e => absurd e (by decide : ¬ ((2:Nat) = 1))), (fun _ => ⟨rfl, HB3.out⟩), (fun e => absurd e (by decide : ¬ ((2:Nat) = 0)))⟩
    go_wp2_with fail
    exact bodyPost_ret (v := .tuple #[.int .i64 0, flt 2]) (by simp [results, Tryd.results139, go_sem, flt]) rfl HQ.out
end Go.Proofs.YtlffdadmgginmaeDoor
namespace Go.Proofs.YtlffdadmgginmaeDoor
open Go.RowKit
attribute [local go_sem ↓] Go.wp_at_zero Go.wp_at_succ
set_option linter.unusedVariables false

section
variable {C : Type}
/-- The value of a machine's next state. -/
def nowV (now : C → Option (Nat × Array Value)) (c : C) : Value := match now c with | none => .nilFunc | some (f, caps) => .func (Fn.func f) caps #[]
/-- How a machine ends that goes by steps: the number, and where it stands then. -/
def EndsN (now : C → Option (Nat × Array Value)) (step : C → C ⊕ (Int × C)) : Nat → C → Int → C → Prop
  | 0, _, _, _ => False
  | n + 1, c, k, cf => (now c = none ∧ k = 1 ∧ cf = c) ∨ (now c ≠ none ∧ step c = .inr (k, cf)) ∨ (now c ≠ none ∧ ∃ c', step c = .inl c' ∧ EndsN now step n c' k cf)
def Ends (now : C → Option (Nat × Array Value)) (step : C → C ⊕ (Int × C)) (c : C) (k : Int) (cf : C) : Prop := ∃ n, EndsN now step n c k cf
theorem Ends.fin {now : C → Option (Nat × Array Value)} {step : C → C ⊕ (Int × C)} {c : C} (h : now c = none) : Ends now step c 1 c := ⟨1, .inl ⟨h, rfl, rfl⟩⟩
theorem Ends.bad {now : C → Option (Nat × Array Value)} {step : C → C ⊕ (Int × C)} {c cf : C} {k : Int} (h : now c ≠ none) (hs : step c = .inr (k, cf)) : Ends now step c k cf := ⟨1, .inr (.inl ⟨h, hs⟩)⟩
theorem Ends.more {now : C → Option (Nat × Array Value)} {step : C → C ⊕ (Int × C)} {c c' cf : C} {k : Int} (h : now c ≠ none) (hs : step c = .inl c') (h2 : Ends now step c' k cf) : Ends now step c k cf := by
  obtain ⟨n, hn⟩ := h2
  exact ⟨n + 1, .inr (.inr ⟨h, c', hs, hn⟩)⟩
theorem Ends.ind {now : C → Option (Nat × Array Value)} {step : C → C ⊕ (Int × C)} {X : C → Int → C → Prop} (h1 : ∀ c, now c = none → X c 1 c) (h2 : ∀ c cf k, now c ≠ none → step c = .inr (k, cf) → X c k cf)
    (h3 : ∀ c c' cf k, now c ≠ none → step c = .inl c' → X c' k cf → X c k cf) {c : C} {k : Int} {cf : C} (h : Ends now step c k cf) : X c k cf := by
  obtain ⟨n, hn⟩ := h
  induction n generalizing c with
  | zero => exact hn.elim
  | succ n ih =>
    rcases hn with ⟨h4, rfl, rfl⟩ | ⟨h4, h5⟩ | ⟨h4, c', h5, h6⟩
    · exact h1 _ h4
    · exact h2 _ _ _ h4 h5
    · exact h3 _ c' _ _ h4 h5 (ih h6)
/-- What a state's call answers. -/
def StepPost (now : C → Option (Nat × Array Value)) (Mem : World → C → Prop) (B : Nat) (r : C ⊕ (Int × C)) (e : Ending) (w w' : World) : Prop :=
  (∀ c', r = .inl c' → e = .returned (.tuple #[nowV now c', .nilIface]) ∧ Mem w' c' ∧ Below B w w') ∧ (∀ k cf, r = .inr (k, cf) → ∃ v, e = .returned (.tuple #[v, flt k]) ∧ Mem w' cf ∧ Below B w w')
/-- What run answers. -/
def RunPost (now : C → Option (Nat × Array Value)) (step : C → C ⊕ (Int × C)) (Mem : World → C → Prop) (B : Nat) (c0 : C) (w : World) (e : Ending) (w' : World) : Prop := ∃ k cf, e = .returned (.int .i64 k) ∧ Ends now step c0 k cf ∧ Mem w' cf ∧ Below B w w'
theorem neq_func (f : Fn) (x y : Array Value) (w : World) : Sem.run Tryd.prog (binOp BinOp.neq 51 (.func f x y) .nilFunc) w = .ok (.bool true) w := by kernel_rfl
theorem neq_nilf (w : World) : Sem.run Tryd.prog (binOp BinOp.neq 51 .nilFunc .nilFunc) w = .ok (.bool false) w := by kernel_rfl
theorem store_nilf (W : World) (a : Addr) (old : Value) (h : W.cell? a = some old) (hf : W.frozen? a = false) : Sem.run Tryd.prog (store a .nilFunc) W = .ok () (W.setCell a .nilFunc) := by
  rw [run_store Tryd.prog W a _ _ (by rfl)]
  simp [h, hf]
theorem store_now (now : C → Option (Nat × Array Value)) (c : C) (W : World) (a : Addr) (old : Value) (h : W.cell? a = some old) (hf : W.frozen? a = false) : Sem.run Tryd.prog (store a (nowV now c)) W = .ok () (W.setCell a (nowV now c)) := by
  unfold nowV
  split
  · exact store_nilf W a old h hf
  · exact store_func W a _ _ _ old h hf
set_option maxRecDepth 100000 in
set_option maxHeartbeats 3200000 in
theorem run_any (q B : Nat) (now : C → Option (Nat × Array Value)) (Mem : World → C → Prop) (step : C → C ⊕ (Int × C)) (μ : C → Nat) (hBq : B ≤ q)
    (hgo : ∀ c f caps, now c = some (f, caps) → ∀ args W, Sem.run Tryd.prog (callFunc f args) W = .ok (.enter f args) W)
    (hcell : ∀ W c, Mem W c → (∃ old, W.cell? ⟨q, 1, none⟩ = some old) ∧ W.frozen? ⟨q, 1, none⟩ = false ∧ W.cell? ⟨1, 0, none⟩ = some (.iface 192 (.agg #[.pointer (some ⟨3, 93, none⟩)])))
    (hset : ∀ W c v, Mem W c → Mem (W.setCell ⟨q, 1, none⟩ v) c) (hbel : ∀ W W' c, Mem W c → Below W.heap.size W W' → Mem W' c)
    (hstep : ∀ W c f caps, now c = some (f, caps) → Mem W c → Calls Tryd.prog f caps W fun e W' => StepPost now Mem B (step c) e W W')
    (hμ : ∀ c c', now c ≠ none → step c = .inl c' → μ c' < μ c) (c0 : C) (w : World) (hM : Mem w c0) (hn : w.cell? ⟨q, 1, none⟩ = some (nowV now c0)) :
    Calls Tryd.prog 25 #[.pointer (some ⟨q, 0, none⟩)] w fun e w' => RunPost now step Mem B c0 w e w' := by
  have HGO := hideM hgo
  have HC := hideM hcell
  have HS := hideM hset
  have HBL := hideM hbel
  have HST := hideM hstep
  have HMU := hideM hμ
  have HM := hideM hM
  have HN := hideM hn
  clear hgo hcell hset hbel hstep hμ hM hn
  go_enter Tryd.func25, Tryd.ntmps25
  go_wp2_with fail
  go_loopg [3] (μ c0) (fun n _ wr => ∃ c : C, Hid (μ c = n) ∧ Hid (Mem wr c) ∧ Hid (wr.cell? ⟨q, 1, none⟩ = some (nowV now c)) ∧ Hid (∀ k cf, Ends now step c k cf → Ends now step c0 k cf) ∧ Hid (Below B w wr))
  case atStart => exact ⟨c0, rfl, HM, HN, (fun _ _ h => h), Below.refl _ _⟩
  case round =>
    clear HM HN
    obtain ⟨c, Hμ, HM, HN, HE, HB⟩ := hrel
    obtain ⟨⟨old, hold⟩, hfr, hgl⟩ := HC.out wr c HM.out
    have hqw := World.block_lt_of_cell? wr _ hold
    have hnn := neq_nilf
    have hne := neq_func
    cases hnow : now c with
    | none =>
      have h1 : wr.cell? ⟨q, 1, none⟩ = some .nilFunc := by rw [HN.out, nowV, hnow]
      have HF := hideM (HE.out 1 c (.fin hnow))
      clear hnow hold
      go_wp2_with fail
      go_ret
      exact ⟨1, c, rfl, HF.out, HM.out, HB.out⟩
    | some fc =>
      obtain ⟨f, caps⟩ := fc
      have h1 : wr.cell? ⟨q, 1, none⟩ = some (.func (Fn.func f) caps #[]) := by rw [HN.out, nowV, hnow]
      have hgo := HGO.out c f caps hnow
      have HCL := hideM (HST.out wr c f caps hnow HM.out)
      have HNN : Hid (now c ≠ none) := by rw [hnow]; intro e; cases e
      clear hold hnow
      go_wp2_with fail
      refine Calls.mono HCL.out ?_
      rintro e w2 ⟨hyes, hno⟩
      cases hst : step c with
      | inl c' =>
        obtain ⟨rfl, hM2, hB2⟩ := hyes c' hst
        obtain ⟨⟨old2, hold2⟩, hfr2, hgl2⟩ := HC.out w2 c' hM2
        have hq2 : q < w2.heap.size := World.block_lt_of_cell? w2 _ hold2
        have hsto := store_now now c' w2 ⟨q, 1, none⟩ old2 hold2 hfr2
        have HM3 := hideM (HS.out w2 c' (nowV now c') hM2)
        have HN3 : Hid ((w2.setCell ⟨q, 1, none⟩ (nowV now c')).cell? ⟨q, 1, none⟩ = some (nowV now c')) := World.cell?_setCell_same _ _ _ hold2
        have HB3 := hideM ((HB.out.trans hB2).setCell (p := ⟨q, 1, none⟩) hBq (nowV now c'))
        have HE3 : Hid (∀ k cf, Ends now step c' k cf → Ends now step c0 k cf) := fun k cf h => HE.out k cf (.more HNN.out hst h)
        have HU3 := hideM (HMU.out c c' HNN.out hst)
        clear hyes hno hM2 hB2 hst HCL
        cases hn' : now c' with
        | none =>
          have hv : nowV now c' = .nilFunc := by rw [nowV, hn']
          clear hn'
          rw [hv] at hsto HM3 HN3 HB3 ⊢
          have HV := hideM hv
          clear hv
          go_wp2_with fail
          go_roundg (μ c')
          case measure => rw [← Hμ.out]; exact HU3.out
          case rel =>
            refine ⟨c', rfl, HM3, ?_, HE3, HB3⟩
            show _ = _
            rw [HV.out]
            exact HN3.out
        | some fc' =>
          obtain ⟨f', caps'⟩ := fc'
          have hv : nowV now c' = .func (Fn.func f') caps' #[] := by rw [nowV, hn']
          clear hn'
          rw [hv] at hsto HM3 HN3 HB3 ⊢
          have HV := hideM hv
          clear hv
          go_wp2_with fail
          go_roundg (μ c')
          case measure => rw [← Hμ.out]; exact HU3.out
          case rel =>
            refine ⟨c', rfl, HM3, ?_, HE3, HB3⟩
            show _ = _
            rw [HV.out]
            exact HN3.out
      | inr kc =>
        obtain ⟨k, cf⟩ := kc
        obtain ⟨v, rfl, hM2, hB2⟩ := hno k cf hst
        obtain ⟨⟨old2, hold2⟩, hfr2, hgl2⟩ := HC.out w2 cf hM2
        have hq2 : q < w2.heap.size := World.block_lt_of_cell? w2 _ hold2
        have HF := hideM (HE.out k cf (.bad HNN.out hst))
        have HM2 := hideM hM2
        have HB2 := hideM (HB.out.trans hB2)
        have HA2 := hideM (stopAt_short q w2 hq2 hgl2)
        have HAB := hideM (fun h => stopAt_bad q k old2 w2 h hold2 hfr2 hgl2)
        clear hyes hno hM2 hB2 hst HCL
        have hw2B : B ≤ w2.heap.size := by omega
        by_cases hk : k = 2
        · subst hk
          unfold flt at HA2 ⊢
          go_wp2_with fail
          refine Calls.mono HA2.out ?_
          rintro e w3 ⟨rfl, hb3⟩
          have HM3 := hideM (HBL.out w2 w3 cf HM2.out hb3)
          have HB3 := hideM (HB2.out.trans (hb3.mono hw2B))
          clear hb3 HA2 HAB
          go_wp2_with fail
          go_ret
          exact ⟨2, cf, rfl, HF.out, HM3.out, HB3.out⟩
        · have HA3 := hideM (HAB.out hk)
          unfold flt at HA3 ⊢
          go_wp2_with fail
          refine Calls.mono HA3.out ?_
          rintro e w3 ⟨rfl, w4, v4, hb4, rfl⟩
          have HM3 := hideM (HS.out w4 cf v4 (HBL.out w2 w4 cf HM2.out hb4))
          have HB3 := hideM ((HB2.out.trans (hb4.mono hw2B)).setCell (p := ⟨q, 1, none⟩) hBq v4)
          clear hb4 HA2 HAB HA3
          go_wp2_with fail
          go_ret
          exact ⟨k, cf, rfl, HF.out, HM3.out, HB3.out⟩
end
end Go.Proofs.YtlffdadmgginmaeDoor
namespace Go.Proofs.YtlffdadmgginmaeDoor
open Go.RowKit
attribute [local go_sem ↓] Go.wp_at_zero Go.wp_at_succ
set_option linter.unusedVariables false

theorem cellFar {w w' : World} {r q : Nat} (hg : w.grownBy w' (some r)) (hlt : q < w.heap.size) (hne : q ≠ r) (o : Nat) : w'.cell? ⟨q, o, none⟩ = w.cell? ⟨q, o, none⟩ := World.cell?_of_block (w := w) (a := ⟨q, o, none⟩) (hg.block q hlt (by simpa using hne))
theorem frozenFar {w w' : World} {r q : Nat} (hg : w.grownBy w' (some r)) (hlt : q < w.heap.size) (hne : q ≠ r) (o : Nat) : w'.frozen? ⟨q, o, none⟩ = w.frozen? ⟨q, o, none⟩ := World.frozen?_of_block (w := w) (a := ⟨q, o, none⟩) (hg.block q hlt (by simpa using hne))
/-- Where a machine for lengths stands: its state's number, the bits read, its numbers by their cells (2 lits, 3 dists, 4 codes, 5.. codeLens, 24 codesRead, 27 repeated), the lengths of its table's code, the lengths read. -/
structure LC where
  st : Nat
  i : Nat
  f : Nat → Int
  tb : List Int
  lens : List Int
/-- The cells that hold numbers. -/
def isNum (k : Nat) : Prop := (2 ≤ k ∧ k ≤ 24) ∨ k = 27
def upd (f : Nat → Int) (k : Nat) (x : Int) : Nat → Int := fun j => if j = k then x else f j
/-- The order of the code of lengths. -/
def ord19 (k : Nat) : Nat := [16, 17, 18, 0, 8, 7, 9, 6, 10, 5, 11, 4, 12, 3, 13, 2, 14, 1, 15].getD k 0
/-- The machine's memory. -/
structure LMem (q p hB : Nat) (zs : List Int) (rdy : Value) (w : World) (c : LC) : Prop where
  ne : q ≠ p
  neh : hB ≠ q
  two : 3 ≤ q ∧ 3 ≤ p ∧ 3 ≤ hB
  rd : Rd w p hB zs c.i
  c0 : w.cell? ⟨q, 0, none⟩ = some (.pointer (some ⟨p, 0, none⟩))
  c1 : ∃ old, w.cell? ⟨q, 1, none⟩ = some old
  num : ∀ k, isNum k → w.cell? ⟨q, k, none⟩ = some (.int .i64 (c.f k))
  c25 : ∃ old, w.cell? ⟨q, 25, none⟩ = some old
  c28 : w.cell? ⟨q, 28, none⟩ = some rdy
  free : ∀ k, w.frozen? ⟨q, k, none⟩ = false
  own : ∃ B v, q < B ∧ p < B ∧ hB < B ∧ B ≤ w.heap.size ∧ w.cell? ⟨q, 26, none⟩ = some v ∧ w.ownsRow B 2 1 v c.lens.length (c.lens.map (Value.int .i64)) ∧ (1 ≤ c.st → c.st ≤ 3 → v = .slice none 0 0) ∧
    (4 ≤ c.st → ∃ t S m L w0, w.cell? ⟨q, 25, none⟩ = some (.pointer (some ⟨t, 0, none⟩)) ∧ TabOf c.tb w0 t S m L ∧ q < t ∧ p < t ∧ w0.heap.size ≤ B ∧ ∀ k, t ≤ k → k < w0.heap.size → w.heap[k]? = w0.heap[k]?)
  g0 : w.cell? ⟨1, 0, none⟩ = some (.iface 192 (.agg #[.pointer (some ⟨3, 93, none⟩)]))
  g1 : ∀ k, k < 19 → w.cell? ⟨2, k, none⟩ = some (.int .i64 (ord19 k : Nat))
/-- Nothing but the machine's first cells, its source and its lengths has been written. -/
structure Trod (q p : Nat) (w w' : World) : Prop where
  os : w'.os = w.os
  tape : w'.tape = w.tape
  output : w'.output = w.output
  size : w.heap.size ≤ w'.heap.size
  block : ∀ k, k < w.heap.size → k ≠ q → k ≠ p → (∀ v, w.cell? ⟨q, 26, none⟩ = some v → v.ownBlock ≠ some k) → w'.heap[k]? = w.heap[k]?
  rest : ∀ o, 29 ≤ o → w'.cell? ⟨q, o, none⟩ = w.cell? ⟨q, o, none⟩
  own : ∀ v' k, w'.cell? ⟨q, 26, none⟩ = some v' → v'.ownBlock = some k → w.heap.size ≤ k ∨ ∃ v, w.cell? ⟨q, 26, none⟩ = some v ∧ v.ownBlock = some k
theorem Trod.refl (q p : Nat) (w : World) : Trod q p w w := ⟨rfl, rfl, rfl, Nat.le_refl _, (fun _ _ _ _ _ => rfl), (fun _ _ => rfl), (fun v k h1 h2 => .inr ⟨v, h1, h2⟩)⟩
theorem Trod.trans {q p : Nat} {a b c : World} (h : Trod q p a b) (k : Trod q p b c) : Trod q p a c := by
  refine ⟨k.os.trans h.os, k.tape.trans h.tape, k.output.trans h.output, Nat.le_trans h.size k.size, ?_, ?_, ?_⟩
  · intro j hj h1 h2 h3
    rw [k.block j (Nat.lt_of_lt_of_le hj h.size) h1 h2 ?_, h.block j hj h1 h2 h3]
    intro v hv e
    rcases h.own v j hv e with h4 | ⟨v0, h4, h5⟩
    · omega
    · exact h3 v0 h4 h5
  · intro o ho
    rw [k.rest o ho, h.rest o ho]
  · intro v' j h1 h2
    rcases k.own v' j h1 h2 with h3 | ⟨v, h3, h4⟩
    · exact .inl (Nat.le_trans h.size h3)
    · exact h.own v j h3 h4
/-- A step of the source alone. -/
theorem Trod.num {q p : Nat} {w w' : World} (hq : q ≠ p) (hlt : q < w.heap.size) (hg : w.grownBy w' (some p)) : Trod q p w w' := by
  have hc : ∀ o, w'.cell? ⟨q, o, none⟩ = w.cell? ⟨q, o, none⟩ := fun o => cellFar hg hlt hq o
  refine ⟨hg.os, hg.tape, hg.output, hg.size, ?_, (fun o _ => hc o), ?_⟩
  · intro k hk _ h2 _
    exact hg.block k hk (by simpa using h2)
  · intro v k h1 h2
    exact .inr ⟨v, (hc 26) ▸ h1, h2⟩
theorem Trod.below {q p : Nat} {w w' : World} (hlt : q < w.heap.size) (hb : Below w.heap.size w w') : Trod q p w w' := by
  have hc : ∀ o, w'.cell? ⟨q, o, none⟩ = w.cell? ⟨q, o, none⟩ := fun o => hb.cell (p := ⟨q, o, none⟩) hlt
  exact ⟨hb.os, hb.tape, hb.output, hb.size, (fun k hk _ _ _ => hb.block k hk), (fun o _ => hc o), (fun v k h1 h2 => .inr ⟨v, (hc 26) ▸ h1, h2⟩)⟩
theorem Trod.set {q p : Nat} {w : World} (k : Nat) (v : Value) (hk : k < 26) : Trod q p w (w.setCell ⟨q, k, none⟩ v) := by
  have hc : ∀ o, 26 ≤ o → (w.setCell ⟨q, k, none⟩ v).cell? ⟨q, o, none⟩ = w.cell? ⟨q, o, none⟩ := fun o ho => World.cell?_setCell_other _ _ _ _ (by first | (simp; done) | (simp; omega))
  have hg := grownBy_setCell w ⟨q, k, none⟩ v
  refine ⟨hg.os, hg.tape, hg.output, hg.size, ?_, (fun o ho => hc o (by omega)), (fun v k h1 h2 => .inr ⟨v, (hc 26 (by omega)) ▸ h1, h2⟩)⟩
  intro j hj h1 _ _
  exact hg.block j hj (by simpa using h1)
theorem LMem.lt {q p hB : Nat} {zs : List Int} {rdy : Value} {w : World} {c : LC} (h : LMem q p hB zs rdy w c) : q < w.heap.size := World.block_lt_of_cell? w _ h.c0
/-- The source has gone on. -/
theorem LMem.went {q p hB : Nat} {zs : List Int} {rdy : Value} {w w' : World} {c : LC} {i' : Nat} (h : LMem q p hB zs rdy w c) (hr : Rd w' p hB zs i') (hg : w.grownBy w' (some p)) : LMem q p hB zs rdy w' { c with i := i' } := by
  have hq := h.lt
  have hc : ∀ o, w'.cell? ⟨q, o, none⟩ = w.cell? ⟨q, o, none⟩ := fun o => cellFar hg hq h.ne o
  obtain ⟨B, v, b1, b2, b3, b4, b5, b6, b7, b8⟩ := h.own
  refine ⟨h.ne, h.neh, h.two, hr, (hc 0).trans h.c0, ?_, (fun k hk => (hc k).trans (h.num k hk)), ?_, (hc 28).trans h.c28, ?_, ?_, ?_, ?_⟩
  · obtain ⟨old, ho⟩ := h.c1
    exact ⟨old, (hc 1).trans ho⟩
  · obtain ⟨old, ho⟩ := h.c25
    exact ⟨old, (hc 25).trans ho⟩
  · intro k
    rw [frozenFar hg hq h.ne k]
    exact h.free k
  · refine ⟨B, v, b1, b2, b3, Nat.le_trans b4 hg.size, (hc 26).trans b5, ?_, b7, ?_⟩
    · refine b6.kept hg ?_
      obtain ⟨_, hx⟩ := b6
      rcases hx with ⟨rfl, _⟩ | ⟨g, cap, cur, rfl, hb, _⟩
      · exact .inl rfl
      · refine .inr ?_
        simp [Value.ownBlock]
        omega
    · intro hs
      obtain ⟨t, S, m, L, w0, h1, h2, h3, h4, h5, h6⟩ := b8 hs
      refine ⟨t, S, m, L, w0, (hc 25).trans h1, h2, h3, h4, h5, fun k k1 k2 => ?_⟩
      rw [← h6 k k1 k2]
      exact hg.block k (by omega) (by simp; omega)
  · exact hg.cell h.g0 (by simp; have := h.two; omega)
  · exact fun k hk => hg.cell (h.g1 k hk) (by simp; have := h.two; omega)
/-- A number of the machine's has been laid. -/
theorem LMem.set {q p hB : Nat} {zs : List Int} {rdy : Value} {w : World} {c : LC} (h : LMem q p hB zs rdy w c) (k : Nat) (hk : isNum k) (x : Int) : LMem q p hB zs rdy (w.setCell ⟨q, k, none⟩ (.int .i64 x)) { c with f := upd c.f k x } := by
  have hq := h.lt
  have hg := grownBy_setCell w ⟨q, k, none⟩ (.int .i64 x)
  have hc : ∀ o, o ≠ k → (w.setCell ⟨q, k, none⟩ (.int .i64 x)).cell? ⟨q, o, none⟩ = w.cell? ⟨q, o, none⟩ := fun o ho => World.cell?_setCell_other _ _ _ _ (by first | (simp; done) | (simp; omega))
  obtain ⟨B, v, b1, b2, b3, b4, b5, b6, b7, b8⟩ := h.own
  have hk' := hk
  unfold isNum at hk'
  refine ⟨h.ne, h.neh, h.two, h.rd.grown hg (by simp; exact Ne.symm h.ne) (by simp; exact h.neh), (hc 0 (by omega)).trans h.c0, ?_, ?_, ?_, (hc 28 (by omega)).trans h.c28, ?_, ?_, ?_, ?_⟩
  · obtain ⟨old, ho⟩ := h.c1
    exact ⟨old, (hc 1 (by omega)).trans ho⟩
  · intro j hj
    by_cases e : j = k
    · subst e
      rw [World.cell?_setCell_same _ _ _ (h.num j hk)]
      simp [upd]
    · rw [hc j e, h.num j hj]
      simp [upd, e]
  · obtain ⟨old, ho⟩ := h.c25
    exact ⟨old, (hc 25 (by omega)).trans ho⟩
  · intro j
    rw [World.frozen?_setCell]
    exact h.free j
  · refine ⟨B, v, b1, b2, b3, Nat.le_trans b4 hg.size, (hc 26 (by omega)).trans b5, ?_, b7, ?_⟩
    · refine b6.kept hg ?_
      obtain ⟨_, hx⟩ := b6
      rcases hx with ⟨rfl, _⟩ | ⟨g, cap, cur, rfl, hb, _⟩
      · exact .inl rfl
      · refine .inr ?_
        simp [Value.ownBlock]
        omega
    · intro hs
      obtain ⟨t, S, m, L, w0, h1, h2, h3, h4, h5, h6⟩ := b8 hs
      refine ⟨t, S, m, L, w0, (hc 25 (by omega)).trans h1, h2, h3, h4, h5, fun j k1 k2 => ?_⟩
      rw [← h6 j k1 k2]
      exact hg.block j (by omega) (by simp; omega)
  · exact hg.cell h.g0 (by simp; have := h.two; omega)
  · exact fun k hk => hg.cell (h.g1 k hk) (by simp; have := h.two; omega)
end Go.Proofs.YtlffdadmgginmaeDoor
