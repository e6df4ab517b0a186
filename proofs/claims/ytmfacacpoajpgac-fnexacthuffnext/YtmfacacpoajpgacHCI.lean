import Derived.Test.YtmfacacpoajpgacHC
import Derived.Test.YtmfacacpoajpgacOwn
import Derived.Test.YtmfacacpoajpgacHKC
namespace Go.Proofs.Ytmfacacpoajpgac
open Go.RowKit
attribute [local go_sem ↓] Go.wp_at_zero Go.wp_at_succ
set_option linter.unusedVariables false

/-- n codes lie in the block g. -/
structure Codes (w : World) (g n : Nat) (F : Nat → Nat × Nat) : Prop where
  lt : g < w.heap.size
  at0 : ∀ i, i < n → w.cell? ⟨g, i * 2, none⟩ = some (.int .i64 ((F i).1 : Nat))
  at1 : ∀ i, i < n → w.cell? ⟨g, i * 2 + 1, none⟩ = some (.int .u64 ((F i).2 : Nat))
  free : ∀ o, w.frozen? ⟨g, o, none⟩ = false
theorem Codes.grown {w w' : World} {row : Option Nat} {g n : Nat} {F : Nat → Nat × Nat} (h : Codes w g n F) (hg : w.grownBy w' row) (hne : some g ≠ row) : Codes w' g n F := by
  have e := hg.block g h.lt hne
  exact ⟨Nat.lt_of_lt_of_le h.lt hg.size, fun i hi => (World.cell?_of_block (w := w) e).trans (h.at0 i hi), fun i hi => (World.cell?_of_block (w := w) e).trans (h.at1 i hi), fun o => (World.frozen?_of_block (w := w) e).trans (h.free o)⟩
theorem Codes.congr {w : World} {g n : Nat} {F G : Nat → Nat × Nat} (h : Codes w g n F) (e : ∀ i, i < n → F i = G i) : Codes w g n G :=
  ⟨h.lt, fun i hi => by rw [← e i hi]; exact h.at0 i hi, fun i hi => by rw [← e i hi]; exact h.at1 i hi, h.free⟩
theorem Codes.set {w : World} {g n : Nat} {F : Nat → Nat × Nat} (h : Codes w g n F) {k : Nat} (hk : k < n) (a b : Nat) :
    Codes ((w.setCell ⟨g, k * 2, none⟩ (.int .i64 a)).setCell ⟨g, k * 2 + 1, none⟩ (.int .u64 b)) g n (fun i => if i = k then (a, b) else F i) ∧ w.grownBy ((w.setCell ⟨g, k * 2, none⟩ (.int .i64 a)).setCell ⟨g, k * 2 + 1, none⟩ (.int .u64 b)) (some g) := by
  refine ⟨⟨by simpa using h.lt, ?_, ?_, fun o => by rw [World.frozen?_setCell, World.frozen?_setCell]; exact h.free o⟩, grownBy_trans (grownBy_setCell w ⟨g, k * 2, none⟩ _) (grownBy_setCell _ ⟨g, k * 2 + 1, none⟩ _)⟩
  · intro i hi
    by_cases e : i = k
    · subst e
      rw [World.cell?_setCell_other _ _ _ _ (by simp), World.cell?_setCell_same _ _ _ (h.at0 i hi)]
      simp
    · rw [World.cell?_setCell_other _ _ _ _ (by first | (simp; done) | (simp; omega)), World.cell?_setCell_other _ _ _ _ (by first | (simp; done) | (simp; omega)), h.at0 i hi]
      simp [e]
  · intro i hi
    by_cases e : i = k
    · subst e
      rw [World.cell?_setCell_same _ _ _ (u := .int .u64 ((F i).2 : Nat)) (by rw [World.cell?_setCell_other _ _ _ _ (by simp)]; exact h.at1 i hi)]
      simp
    · rw [World.cell?_setCell_other _ _ _ _ (by first | (simp; done) | (simp; omega)), World.cell?_setCell_other _ _ _ _ (by first | (simp; done) | (simp; omega)), h.at1 i hi]
      simp [e]
/-- The code of symbol i. -/
def code (zs : List Int) (i : Nat) : Nat × Nat := if (zs.getD i 0).toNat = 0 then (0, 0) else ((zs.getD i 0).toNat, tr (fst (cnt zs) (zs.getD i 0).toNat + cnt (zs.take i) (zs.getD i 0).toNat) (zs.getD i 0).toNat)
/-- The first k of them. -/
def codeTo (zs : List Int) (k i : Nat) : Nat × Nat := if i < k then code zs i else (0, 0)
/-- The next code of each length, behind k symbols. -/
def nx (zs : List Int) (k l : Nat) : Nat := if l = 0 then 0 else fst (cnt zs) l + cnt (zs.take k) l
/-- Whether there are codes. -/
def okC (zs : List Int) : Bool := okB zs && decide (¬ hk zs = 2)
/-- Codes that came back. -/
def RowH (B : Nat) (w : World) (ao : Option Addr) (n : Nat) (F : Nat → Nat × Nat) : Prop := 0 < n → ∃ g, ao = some ⟨g, 0, none⟩ ∧ B ≤ g ∧ Codes w g n F
theorem RowH.nil (B : Nat) (w : World) (ao : Option Addr) (F : Nat → Nat × Nat) : RowH B w ao 0 F := fun h => by omega
/-- How many came back. -/
def nC (zs : List Int) : Nat := if okC zs then zs.length else 0
def ResH (B : Nat) (w : World) (e : Ending) (zs : List Int) : Prop := ∃ bo bc, e = .returned (.slice bo (nC zs) bc) ∧ RowH B w bo (nC zs) (code zs)
theorem ResH.no (B : Nat) (w : World) (zs : List Int) (bo : Option Addr) (bc : Nat) (h : okC zs = false) : ResH B w (.returned (.slice bo 0 bc)) zs := by
  have hn : nC zs = 0 := by simp [nC, h]
  refine ⟨bo, bc, by rw [hn], ?_⟩
  rw [hn]
  exact RowH.nil _ _ _ _
theorem ResH.yes (B : Nat) (w : World) (zs : List Int) (g bc : Nat) (h : okC zs = true) (hB : B ≤ g) (hc : Codes w g zs.length (code zs)) : ResH B w (.returned (.slice (some ⟨g, 0, none⟩) zs.length bc)) zs := by
  have hn : nC zs = zs.length := by simp [nC, h]
  refine ⟨_, bc, by rw [hn], ?_⟩
  rw [hn]
  exact fun _ => ⟨g, rfl, hB, hc⟩
theorem Try.info_hc : (Try.prog.info? 62).map (fun i => (i.zero, i.size, i.bytes)) = some (some (.agg #[.int .i64 0, .int .u64 0]), 2, 16) := by kernel_rfl
theorem made_hc (n j : Nat) (h : j < n * 2) : (madeCells (Value.agg #[.int .i64 0, .int .u64 0]).cells (n * 2)).toList[j]? = some (if j % 2 = 0 then .int .i64 0 else .int .u64 0) := by
  have h2 : j % 2 = 0 ∨ j % 2 = 1 := by omega
  simp only [madeCells, Value.cells]
  rcases h2 with h2 | h2 <;> simp [h, h2]
theorem Codes.made {w : World} {B g n cap : Nat} {xs : List Value} (h : w.ownsRow B 62 2 (.slice (some ⟨g, 0, none⟩) n cap) n xs) (hx : ∀ j, j < n * 2 → xs[j]? = some (if j % 2 = 0 then .int .i64 0 else .int .u64 0)) : Codes w g n (fun _ => (0, 0)) := by
  refine ⟨?_, ?_, ?_, fun o => h.frozenAt o⟩
  · rcases h.2 with ⟨h', _⟩ | ⟨g', cap', cur, h', _, hg, _⟩
    · simp at h'
    · simp only [Value.slice.injEq, Option.some.injEq, Addr.mk.injEq, and_true, true_and] at h'
      obtain ⟨rfl, rfl⟩ := h'
      exact (Array.getElem?_eq_some_iff.1 hg).1
  · intro i hi
    rw [h.cellAt (i * 2) (by omega), hx _ (by omega), if_pos (by omega)]
    rfl
  · intro i hi
    rw [h.cellAt (i * 2 + 1) (by omega), hx _ (by omega), if_neg (by omega)]
    rfl
theorem nx_le (zs : List Int) (k l : Nat) (hl : l ≤ 15) (hn : zs.length ≤ 320) : nx zs k l ≤ 20971840 := by
  unfold nx
  split
  · omega
  · have h1 := fst_le (cnt zs) (fun i => Nat.le_trans (cnt_le _ _) hn) l
    have h2 : cnt (zs.take k) l ≤ 320 := Nat.le_trans (cnt_le _ _) (by simp; omega)
    have h3 : 2 ^ l ≤ 32768 := Nat.le_trans (Nat.pow_le_pow_right (by decide) hl) (by decide)
    omega

set_option maxRecDepth 100000 in
set_option maxHeartbeats 6400000 in
theorem icodes_any (ao : Option Addr) (cap : Nat) (zs : List Int) (w : World) (hr : Row64 w ao zs) (hn : zs.length ≤ 1048576) :
    Calls Try.prog 11 #[.slice ao zs.length cap] w fun e w' => ResH w.heap.size w' e zs ∧ Below w.heap.size w w' := by
  obtain ⟨i0, hi, hz0, hz1, hz2⟩ := info_parts Try.info_hc
  have HC := hideH (countLens_any ao cap zs w hr hn)
  have HR := hideH hr
  clear hr
  go_enter Try.func11, Try.ntmps11
  go_wp2_with fail
  refine Calls.mono HC.out ?_
  rintro e w1 ⟨⟨L, rfl, hlen, hone, hcnt⟩, hb1⟩
  have hN := Cnts.new w1 65
  have hsz : (Try.prog.info? 65).map (·.size) = some L.length := by rw [hlen]; exact Try.size_cnts
  have hth : (w1.alloc (.cells #[.int .i64 0, .int .i64 0, .int .i64 0, .int .i64 0, .int .i64 0, .int .i64 0, .int .i64 0, .int .i64 0, .int .i64 0, .int .i64 0, .int .i64 0, .int .i64 0, .int .i64 0, .int .i64 0, .int .i64 0, .int .i64 0] 65)).there w1.heap.size 0 L.length := by rw [hlen]; exact hN.there
  have hrg := World.rangeAt_setCells_same _ w1.heap.size 0 L hth
  have hb2 : Below w.heap.size w ((w1.alloc (.cells #[.int .i64 0, .int .i64 0, .int .i64 0, .int .i64 0, .int .i64 0, .int .i64 0, .int .i64 0, .int .i64 0, .int .i64 0, .int .i64 0, .int .i64 0, .int .i64 0, .int .i64 0, .int .i64 0, .int .i64 0, .int .i64 0] 65)).setCells w1.heap.size 0 L) := (hb1.alloc hb1.size _).grown (grownBy_setCells w1.heap.size L 0 _) (hb1.alloc hb1.size _).size (by intro q e; simp at e; have := hb1.size; omega)
  have HON := hideH (all_oneCell_toArray hone)
  have HB2 := hideH hb2
  have HLN := hideH hlen
  have HCN := hideH hcnt
  have hz1' := hb1.size
  have hw2 : w1.heap.size < ((w1.alloc (.cells #[.int .i64 0, .int .i64 0, .int .i64 0, .int .i64 0, .int .i64 0, .int .i64 0, .int .i64 0, .int .i64 0, .int .i64 0, .int .i64 0, .int .i64 0, .int .i64 0, .int .i64 0, .int .i64 0, .int .i64 0, .int .i64 0] 65)).setCells w1.heap.size 0 L).heap.size := by
    have := (grownBy_setCells w1.heap.size L 0 (w1.alloc (.cells #[.int .i64 0, .int .i64 0, .int .i64 0, .int .i64 0, .int .i64 0, .int .i64 0, .int .i64 0, .int .i64 0, .int .i64 0, .int .i64 0, .int .i64 0, .int .i64 0, .int .i64 0, .int .i64 0, .int .i64 0, .int .i64 0] 65))).size
    simp at this
    omega
  clear hN HC hb1 hb2 hone hcnt hlen
  by_cases hok : okB zs = true
  · have hLc := HCN.out hok
    have hn320 := (okB_ok hok).1
    have HK := hideH (fun W => kindc_any (cnt zs) L W HLN.out (by rw [hLc]; exact cells16_at _) (fun i => Nat.le_trans (cnt_le _ _) hn320))
    have HF := hideH (fun W => firstCodes_any (cnt zs) L W HLN.out (by rw [hLc]; exact cells16_at _) (fun i => Nat.le_trans (cnt_le _ _) hn320))
    have HKH := hideH (kindF_hk hok)
    have HOL := hideH (okB_ok hok).2
    rw [hok]
    clear hLc
    go_upto_region 2 with (refine wpList_store_mid rfl _ _ _ rfl w1.heap.size 0 L.toArray rfl rfl (by simpa using hth) (by simpa using hsz) HON.out ?_)
    generalize (w1.alloc (.cells #[.int .i64 0, .int .i64 0, .int .i64 0, .int .i64 0, .int .i64 0, .int .i64 0, .int .i64 0, .int .i64 0, .int .i64 0, .int .i64 0, .int .i64 0, .int .i64 0, .int .i64 0, .int .i64 0, .int .i64 0, .int .i64 0] 65)).setCells w1.heap.size 0 L = w2 at *
    have hcl : ∀ i, i < 16 → w2.cell? ⟨w1.heap.size, 0 + i, none⟩ = some (.int .i64 (cnt zs i : Nat)) := fun i hi => hrg i _ (by rw [HCN.out hok]; exact cells16_at _ i hi)
    have c0 : w2.cell? ⟨w1.heap.size, 0, none⟩ = some (.int .i64 (cnt zs 0 : Nat)) := by have := hcl 0 (by omega); simpa using this
    have c1 : w2.cell? ⟨w1.heap.size, 1, none⟩ = some (.int .i64 (cnt zs 1 : Nat)) := by have := hcl 1 (by omega); simpa using this
    have c2 : w2.cell? ⟨w1.heap.size, 2, none⟩ = some (.int .i64 (cnt zs 2 : Nat)) := by have := hcl 2 (by omega); simpa using this
    have c3 : w2.cell? ⟨w1.heap.size, 3, none⟩ = some (.int .i64 (cnt zs 3 : Nat)) := by have := hcl 3 (by omega); simpa using this
    have c4 : w2.cell? ⟨w1.heap.size, 4, none⟩ = some (.int .i64 (cnt zs 4 : Nat)) := by have := hcl 4 (by omega); simpa using this
    have c5 : w2.cell? ⟨w1.heap.size, 5, none⟩ = some (.int .i64 (cnt zs 5 : Nat)) := by have := hcl 5 (by omega); simpa using this
    have c6 : w2.cell? ⟨w1.heap.size, 6, none⟩ = some (.int .i64 (cnt zs 6 : Nat)) := by have := hcl 6 (by omega); simpa using this
    have c7 : w2.cell? ⟨w1.heap.size, 7, none⟩ = some (.int .i64 (cnt zs 7 : Nat)) := by have := hcl 7 (by omega); simpa using this
    have c8 : w2.cell? ⟨w1.heap.size, 8, none⟩ = some (.int .i64 (cnt zs 8 : Nat)) := by have := hcl 8 (by omega); simpa using this
    have c9 : w2.cell? ⟨w1.heap.size, 9, none⟩ = some (.int .i64 (cnt zs 9 : Nat)) := by have := hcl 9 (by omega); simpa using this
    have c10 : w2.cell? ⟨w1.heap.size, 10, none⟩ = some (.int .i64 (cnt zs 10 : Nat)) := by have := hcl 10 (by omega); simpa using this
    have c11 : w2.cell? ⟨w1.heap.size, 11, none⟩ = some (.int .i64 (cnt zs 11 : Nat)) := by have := hcl 11 (by omega); simpa using this
    have c12 : w2.cell? ⟨w1.heap.size, 12, none⟩ = some (.int .i64 (cnt zs 12 : Nat)) := by have := hcl 12 (by omega); simpa using this
    have c13 : w2.cell? ⟨w1.heap.size, 13, none⟩ = some (.int .i64 (cnt zs 13 : Nat)) := by have := hcl 13 (by omega); simpa using this
    have c14 : w2.cell? ⟨w1.heap.size, 14, none⟩ = some (.int .i64 (cnt zs 14 : Nat)) := by have := hcl 14 (by omega); simpa using this
    have c15 : w2.cell? ⟨w1.heap.size, 15, none⟩ = some (.int .i64 (cnt zs 15 : Nat)) := by have := hcl 15 (by omega); simpa using this
    have HKE : Hid (∀ W : World, Calls Try.prog 41 #[.agg #[.int .i64 (cnt zs 0 : Nat), .int .i64 (cnt zs 1 : Nat), .int .i64 (cnt zs 2 : Nat), .int .i64 (cnt zs 3 : Nat), .int .i64 (cnt zs 4 : Nat), .int .i64 (cnt zs 5 : Nat), .int .i64 (cnt zs 6 : Nat), .int .i64 (cnt zs 7 : Nat), .int .i64 (cnt zs 8 : Nat), .int .i64 (cnt zs 9 : Nat), .int .i64 (cnt zs 10 : Nat), .int .i64 (cnt zs 11 : Nat), .int .i64 (cnt zs 12 : Nat), .int .i64 (cnt zs 13 : Nat), .int .i64 (cnt zs 14 : Nat), .int .i64 (cnt zs 15 : Nat)]] W fun e w' => e = .returned (.int .i64 (kindF (sumTo (cnt zs) 15) (sumTo (fun l => cnt zs l * 2 ^ (15 - l)) 15) (cnt zs 1))) ∧ Below W.heap.size W w') := by
      intro W
      have h := HK.out W
      rw [HCN.out hok] at h
      exact h
    clear hth hcl
    go_wp2_with fail
    refine Calls.mono (HKE.out _) ?_
    rintro e w3 ⟨rfl, hb3⟩
    rw [HKH.out]
    have hrg3 : w3.rangeAt w1.heap.size 0 L := fun j v hv => (hb3.cell (p := ⟨w1.heap.size, 0 + j, none⟩) hw2).trans (hrg j v hv)
    have HB3 := hideH (HB2.out.trans (hb3.mono HB2.out.size))
    have hz3 : w1.heap.size < w3.heap.size := by have := hb3.size; omega
    clear hb3 hrg HB2 HK HKH hw2 HKE c0 c1 c2 c3 c4 c5 c6 c7 c8 c9 c10 c11 c12 c13 c14 c15
    by_cases hk2 : hk zs = 2
    · have hoc : okC zs = false := by simp [okC, hk2]
      have hkb : (hk zs == 2) = true := by simp [hk2]
      have HOC := hideH hoc
      clear hk2 hoc
      go_wp2_with fail
      go_ret
      exact ⟨ResH.no _ _ _ _ _ HOC.out, HB3.out⟩
    · have hoc : okC zs = true := by simp [okC, hok, hk2]
      have hkb : (hk zs == 2) = false := by simp [hk2]
      have HOC := hideH hoc
      clear hk2 hoc
      have hm : zs.length ≤ maxLen := by unfold maxLen; omega
      go_wp2_with (at_make; refine wpList_make_full _ rfl _ _ 23 rfl w3.heap.size 62 i0 (.agg #[.int .i64 0, .int .u64 0]) 2 Try.underlying23 hi hz0 hz1 _ _ _ _ zs.length rfl rfl rfl rfl (by rw [hz2]; omega) hm (Nat.le_refl _) ?_)
      intro w4 hown hgrow
      have hCd := Codes.made hown (fun j hj => made_hc _ j hj)
      have hb4 : Below w3.heap.size w3 w4 := below_of_grownBy hgrow
      have hrg4 : w4.rangeAt w1.heap.size 0 L := fun j v hv => (hb4.cell (p := ⟨w1.heap.size, 0 + j, none⟩) hz3).trans (hrg3 j v hv)
      have HB4 := hideH (HB3.out.trans (hb4.mono HB3.out.size))
      have HCD := hideH hCd
      have hz4 := hCd.lt
      have hzw := HB3.out.size
      clear hown hgrow hb4 hrg3 HB3 hCd
      go_wp2_with (refine wpList_load_mid rfl _ _ rfl _ _ rfl L _ hrg4 Try.underlying65 rfl hsz ?_)
      refine Calls.mono (HF.out _) ?_
      rintro e w5 ⟨rfl, hb5⟩
      obtain ⟨K, hK⟩ : ∃ K, cells16u (fst (cnt zs)) = K := ⟨_, rfl⟩
      have hoK := cells16u_one (fst (cnt zs))
      have hlK := cells16u_len (fst (cnt zs))
      rw [hK] at hoK hlK ⊢
      have hNU := CntU.new w5 69
      have hszK : (Try.prog.info? 69).map (·.size) = some K.length := by rw [hlK]; exact Try.size_cntu
      have hthK : (w5.alloc (.cells #[.int .u64 0, .int .u64 0, .int .u64 0, .int .u64 0, .int .u64 0, .int .u64 0, .int .u64 0, .int .u64 0, .int .u64 0, .int .u64 0, .int .u64 0, .int .u64 0, .int .u64 0, .int .u64 0, .int .u64 0, .int .u64 0] 69)).there w5.heap.size 0 K.length := by rw [hlK]; exact hNU.there
      have hrK := World.rangeAt_setCells_same _ w5.heap.size 0 K hthK
      have hgK := grownBy_setCells w5.heap.size K 0 (w5.alloc (.cells #[.int .u64 0, .int .u64 0, .int .u64 0, .int .u64 0, .int .u64 0, .int .u64 0, .int .u64 0, .int .u64 0, .int .u64 0, .int .u64 0, .int .u64 0, .int .u64 0, .int .u64 0, .int .u64 0, .int .u64 0, .int .u64 0] 69))
      have HONK := hideH (all_oneCell_toArray hoK)
      have hfz : ∀ i, ((w5.alloc (.cells #[.int .u64 0, .int .u64 0, .int .u64 0, .int .u64 0, .int .u64 0, .int .u64 0, .int .u64 0, .int .u64 0, .int .u64 0, .int .u64 0, .int .u64 0, .int .u64 0, .int .u64 0, .int .u64 0, .int .u64 0, .int .u64 0] 69)).setCells w5.heap.size 0 K).frozen? ⟨w5.heap.size, i, none⟩ = false := fun i => by rw [World.frozen?_setCells]; exact hNU.free i
      have hU6 : CntU ((w5.alloc (.cells #[.int .u64 0, .int .u64 0, .int .u64 0, .int .u64 0, .int .u64 0, .int .u64 0, .int .u64 0, .int .u64 0, .int .u64 0, .int .u64 0, .int .u64 0, .int .u64 0, .int .u64 0, .int .u64 0, .int .u64 0, .int .u64 0] 69)).setCells w5.heap.size 0 K) w5.heap.size (nx zs 0) := ⟨fun i hi => by
        have h1 := hrK i _ (by rw [← hK]; exact cells16u_at _ i hi)
        rw [Nat.zero_add] at h1
        rw [h1]
        congr 2
        unfold nx
        by_cases h0 : i = 0
        · subst h0; rfl
        · rw [if_neg h0]; simp [cnt], hfz⟩
      have hC6 : Codes ((w5.alloc (.cells #[.int .u64 0, .int .u64 0, .int .u64 0, .int .u64 0, .int .u64 0, .int .u64 0, .int .u64 0, .int .u64 0, .int .u64 0, .int .u64 0, .int .u64 0, .int .u64 0, .int .u64 0, .int .u64 0, .int .u64 0, .int .u64 0] 69)).setCells w5.heap.size 0 K) w3.heap.size zs.length (codeTo zs 0) := (((HCD.out.grown (grownBy_of_below hb5 none) (by simp)).grown (World.grownBy_alloc _ _ none) (by simp)).grown hgK (by have := hb5.size; simp; omega)).congr (fun i _ => by simp [codeTo])
      have hB6 : Below w.heap.size w ((w5.alloc (.cells #[.int .u64 0, .int .u64 0, .int .u64 0, .int .u64 0, .int .u64 0, .int .u64 0, .int .u64 0, .int .u64 0, .int .u64 0, .int .u64 0, .int .u64 0, .int .u64 0, .int .u64 0, .int .u64 0, .int .u64 0, .int .u64 0] 69)).setCells w5.heap.size 0 K) := by
        have h1 := HB4.out.trans (hb5.mono HB4.out.size)
        have h2 := h1.alloc h1.size (.cells #[.int .u64 0, .int .u64 0, .int .u64 0, .int .u64 0, .int .u64 0, .int .u64 0, .int .u64 0, .int .u64 0, .int .u64 0, .int .u64 0, .int .u64 0, .int .u64 0, .int .u64 0, .int .u64 0, .int .u64 0, .int .u64 0] 69)
        exact h2.grown hgK h2.size (by intro q e; simp at e; have := h1.size; omega)
      have hz5 : w3.heap.size < w5.heap.size := by have := hb5.size; omega
      have HU6 := hideH hU6
      have HC6 := hideH hC6
      have HB6 := hideH hB6
      clear hb5 HB4 HCD hNU hrK hgK hfz hU6 hC6 hB6 hoK hlK hK HF hrg4
      go_upto_region 6 with (refine wpList_store_mid rfl _ _ _ rfl w5.heap.size 0 K.toArray rfl rfl (by simpa using hthK) (by simpa using hszK) HONK.out ?_)
      generalize ((w5.alloc (.cells #[.int .u64 0, .int .u64 0, .int .u64 0, .int .u64 0, .int .u64 0, .int .u64 0, .int .u64 0, .int .u64 0, .int .u64 0, .int .u64 0, .int .u64 0, .int .u64 0, .int .u64 0, .int .u64 0, .int .u64 0, .int .u64 0] 69)).setCells w5.heap.size 0 K) = w6 at *
      clear hthK hszK HONK
      go_wp2_with fail
      go_loopw [28] (fun i wr => ∃ k : Nat, k ≤ zs.length ∧ i = .int .i64 k ∧ CntU wr w5.heap.size (nx zs k) ∧ Codes wr w3.heap.size zs.length (codeTo zs k) ∧ Below w.heap.size w wr) (fun i _ => zs.length - (intOf i).toNat)
      case atStart => exact ⟨0, Nat.zero_le _, rfl, HU6.out, HC6.out, HB6.out⟩
      case round =>
        clear HU6 HC6 HB6
        obtain ⟨k, hk, rfl, hU, hCd, hB⟩ := hrel
        by_cases hlt : k < zs.length
        · obtain ⟨b, off, rfl, hc⟩ := HR.out.at hlt
          have hb : b < w.heap.size := World.block_lt_of_cell? w _ (hc k hlt)
          have hcx : wr.cell? ⟨b, off + k, none⟩ = some (.int .i64 (zs.getD k 0)) := (hB.cell (by exact hb)).trans (hc k hlt)
          have hgd : zs[k] = zs.getD k 0 := by simp [List.getD, hlt]
          have hx := HOL.out (zs[k]) (List.getElem_mem hlt)
          rw [hgd] at hx
          obtain ⟨l, hl⟩ : ∃ l : Nat, zs.getD k 0 = l := ⟨(zs.getD k 0).toNat, by omega⟩
          have hcnt : ∀ i, cnt (zs.take (k + 1)) i = cnt (zs.take k) i + if l = i then 1 else 0 := by
            intro i
            rw [take_snoc zs k hlt, cnt_app, hl]
            simp only [Int.ofNat_inj]
          have hcode : code zs k = if l = 0 then (0, 0) else (l, tr (fst (cnt zs) l + cnt (zs.take k) l) l) := by
            unfold code
            rw [hl, Int.toNat_natCast]
          rw [hl] at hcx hx
          have hl15 : l ≤ 15 := by omega
          have HCNT := hideH hcnt
          have HCODE := hideH hcode
          clear hc hgd hl hcnt hcode
          by_cases hl0 : l = 0
          · subst hl0
            have HU2 := hideH (hU.congr (g := nx zs (k + 1)) (fun i => by
              unfold nx
              by_cases h0 : i = 0
              · rw [if_pos h0, if_pos h0]
              · rw [if_neg h0, if_neg h0, HCNT.out i, if_neg (by omega)]; rfl))
            have HC2 := hideH (hCd.congr (G := codeTo zs (k + 1)) (fun i _ => by
              unfold codeTo
              by_cases h1 : i < k
              · rw [if_pos h1, if_pos (by omega)]
              · rw [if_neg h1]
                by_cases h2 : i = k
                · subst h2; rw [if_pos (by omega), HCODE.out]; rfl
                · rw [if_neg (by omega)]))
            have HBx := hideH hB
            clear hU hCd hB HCNT HCODE
            go_wp2_with fail
            go_roundw
            case rel => exact ⟨k + 1, by omega, by go_num, HU2.out, HC2.out, HBx.out⟩
            case measure => simp [intOf]; omega
          · have hX := nx_le zs k l hl15 hn320
            have hXe : nx zs k l = fst (cnt zs) l + cnt (zs.take k) l := if_neg hl0
            have cu := hU.at_ l (by omega)
            have fu := hU.free l
            have c0 := hCd.at0 k hlt
            have c1 := hCd.at1 k hlt
            have f0 := hCd.free (k * 2)
            have f1 := hCd.free (k * 2 + 1)
            have HT := hideH (fun W => turnRound_any (nx zs k l) l (by omega) (by omega) hl15 W)
            obtain ⟨hC2, hg2⟩ := hCd.set hlt l (tr (nx zs k l) l)
            have hU2 := hU.grown hg2 (by simp; omega)
            have hU3 := (hU2.set (l := l) (by omega) (nx zs k l + 1)).congr (g := nx zs (k + 1)) (fun i => by
              unfold nx
              by_cases h1 : i = l
              · rw [if_pos h1, h1, if_neg hl0, if_neg hl0, HCNT.out l, if_pos rfl]; omega
              · rw [if_neg h1]
                by_cases h0 : i = 0
                · rw [if_pos h0, if_pos h0]
                · rw [if_neg h0, if_neg h0, HCNT.out i, if_neg (by omega)]; rfl)
            have hg3 : ((wr.setCell ⟨w3.heap.size, k * 2, none⟩ (.int .i64 l)).setCell ⟨w3.heap.size, k * 2 + 1, none⟩ (.int .u64 (tr (nx zs k l) l : Nat))).grownBy (((wr.setCell ⟨w3.heap.size, k * 2, none⟩ (.int .i64 l)).setCell ⟨w3.heap.size, k * 2 + 1, none⟩ (.int .u64 (tr (nx zs k l) l : Nat))).setCell ⟨w5.heap.size, l, none⟩ (.int .u64 ((nx zs k l + 1 : Nat) : Int))) (some w5.heap.size) := grownBy_setCell _ _ _
            have hC3 := (hC2.grown hg3 (by simp; omega)).congr (G := codeTo zs (k + 1)) (fun i _ => by
              unfold codeTo
              by_cases h2 : i = k
              · subst h2; rw [if_pos rfl, if_pos (by omega), HCODE.out, if_neg hl0, ← hXe]
              · rw [if_neg h2]
                by_cases h1 : i < k
                · rw [if_pos h1, if_pos (by omega)]
                · rw [if_neg h1, if_neg (by omega)])
            have hB2 := hB.grown hg2 hB.size (by intro q e; simp at e; omega)
            have hB3 := hB2.grown hg3 hB2.size (by intro q e; simp at e; omega)
            obtain ⟨X, hXX⟩ : ∃ X, nx zs k l = X := ⟨_, rfl⟩
            rw [hXX] at cu HT hU3 hC3 hB3 hX
            obtain ⟨Y, hY⟩ : ∃ Y, tr X l = Y := ⟨_, rfl⟩
            rw [hY] at HT hU3 hC3 hB3
            have cu2 : ((wr.setCell ⟨w3.heap.size, k * 2, none⟩ (.int .i64 l)).setCell ⟨w3.heap.size, k * 2 + 1, none⟩ (.int .u64 Y)).cell? ⟨w5.heap.size, l, none⟩ = some (.int .u64 X) := by
              rw [World.cell?_setCell_other _ _ _ _ (by first | (simp; done) | (simp; omega)), World.cell?_setCell_other _ _ _ _ (by first | (simp; done) | (simp; omega))]; exact cu
            simp only [Int.natCast_add] at hU3 hC3 hB3
            have HU3 := hideH hU3
            have HC3 := hideH hC3
            have HB3' := hideH hB3
            have hkl : (k : Int) < (zs.length : Int) := by omega
            have hl16 : (l : Int) < 16 := by omega
            have hne : w5.heap.size ≠ w3.heap.size := by omega
            generalize (codeTo zs k k).1 = o0 at *
            generalize (codeTo zs k k).2 = o1 at *
            clear hU hCd hB hC2 hg2 hU2 hU3 hg3 hC3 hB2 hB3 hXe hXX hY HCNT HCODE
            go_wp2_with fail
            refine Calls.mono (HT.out _) ?_
            rintro e w7 ⟨rfl, rfl⟩
            go_wp2_with fail
            go_roundw
            case rel => exact ⟨k + 1, by omega, by go_num, HU3.out, HC3.out, HB3'.out⟩
            case measure => simp [intOf]; omega
        · have e : k = zs.length := by omega
          subst e
          have hfin := hCd.congr (G := code zs) (fun i hi => if_pos hi)
          go_wp2_with fail
          go_ret
          exact ⟨ResH.yes _ _ _ _ _ HOC.out (by omega) hfin, hB⟩
  · have hok : okB zs = false := by simpa using hok
    have hoc : okC zs = false := by simp [okC, hok]
    rw [hok]
    have HOC := hideH hoc
    clear hoc
    go_wp2_with (first | (refine wpList_store_mid rfl _ _ _ rfl w1.heap.size 0 L.toArray rfl rfl (by simpa using hth) (by simpa using hsz) HON.out ?_) | (refine wpList_load_mid rfl _ _ rfl _ _ rfl L _ hrg Try.underlying65 rfl hsz ?_))
    go_ret
    exact ⟨ResH.no _ _ _ _ _ HOC.out, HB2.out⟩

end Go.Proofs.Ytmfacacpoajpgac
