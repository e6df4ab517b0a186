import Derived.Test.YtmfacacpoajpgacRevS
import Derived.Test.YtmfacacpoajpgacHKC
namespace Go.Proofs.Ytmfacacpoajpgac
open Go.RowKit
attribute [local go_sem ↓] Go.wp_at_zero Go.wp_at_succ
set_option linter.unusedVariables false

def cells16u (f : Nat → Nat) : List Value := (List.range 16).map (fun i => Value.int .u64 (f i : Nat))
theorem cells16u_len (f : Nat → Nat) : (cells16u f).length = 16 := by simp [cells16u]
theorem cells16u_at (f : Nat → Nat) (i : Nat) (h : i < 16) : (cells16u f)[i]? = some (Value.int .u64 (f i : Nat)) := by simp [cells16u, h]
/-- Sixteen uint64 lie at p. -/
structure CntU (w : World) (p : Nat) (f : Nat → Nat) : Prop where
  at_ : ∀ i, i < 16 → w.cell? ⟨p, i, none⟩ = some (.int .u64 (f i : Nat))
  free : ∀ i, w.frozen? ⟨p, i, none⟩ = false
theorem CntU.lt {w : World} {p : Nat} {f : Nat → Nat} (h : CntU w p f) : p < w.heap.size := World.block_lt_of_cell? w _ (h.at_ 0 (by omega))
theorem CntU.grown {w w' : World} {row : Option Nat} {p : Nat} {f : Nat → Nat} (h : CntU w p f) (hg : w.grownBy w' row) (hne : some p ≠ row) : CntU w' p f := by
  have e := hg.block p h.lt hne
  exact ⟨fun i hi => (World.cell?_of_block (w := w) e).trans (h.at_ i hi), fun i => (World.frozen?_of_block (w := w) e).trans (h.free i)⟩
theorem CntU.range {w : World} {p : Nat} {f : Nat → Nat} (h : CntU w p f) : w.rangeAt p 0 (cells16u f) := by
  intro j v hv
  have hj : j < 16 := by
    have h1 := (List.getElem?_eq_some_iff.1 hv).1
    rwa [cells16u_len] at h1
  rw [cells16u_at f j hj] at hv
  simp only [Option.some.injEq] at hv
  subst hv
  rw [Nat.zero_add]
  exact h.at_ j hj
theorem CntU.there {w : World} {p : Nat} {f : Nat → Nat} (h : CntU w p f) : w.there p 0 16 := by
  intro j hj
  rw [Nat.zero_add, h.at_ j hj]
  exact ⟨rfl, h.free j⟩
theorem CntU.bump {w : World} {p : Nat} {f : Nat → Nat} (h : CntU w p f) {l : Nat} (hl : l < 16) (v : Int) (hv : v = ((f l + 1 : Nat) : Int)) : CntU (w.setCell ⟨p, l, none⟩ (.int .u64 v)) p (fun i => f i + if i = l then 1 else 0) := by
  refine ⟨fun i hi => ?_, fun i => by rw [World.frozen?_setCell]; exact h.free i⟩
  by_cases e : i = l
  · subst e; subst hv
    rw [World.cell?_setCell_same _ _ _ (h.at_ i hi)]
    simp
  · have e' : ¬ l = i := fun h => e h.symm
    rw [World.cell?_setCell_other _ _ _ _ (by simp), h.at_ i hi]
    simp [e]
theorem CntU.congr {w : World} {p : Nat} {f g : Nat → Nat} (h : CntU w p f) (e : ∀ i, f i = g i) : CntU w p g := ⟨fun i hi => by rw [← e]; exact h.at_ i hi, h.free⟩
theorem Try.size_cntu : (Try.prog.info? 69).map (·.size) = some 16 := by kernel_rfl
theorem cells16u_one (f : Nat → Nat) : ∀ v ∈ cells16u f, v.oneCell' = true := by
  intro v hv
  simp only [cells16u, List.mem_map] at hv
  obtain ⟨i, _, rfl⟩ := hv
  rfl

theorem CntU.new (w : World) (t : TypeId) : CntU (w.alloc (.cells #[.int .u64 0, .int .u64 0, .int .u64 0, .int .u64 0, .int .u64 0, .int .u64 0, .int .u64 0, .int .u64 0, .int .u64 0, .int .u64 0, .int .u64 0, .int .u64 0, .int .u64 0, .int .u64 0, .int .u64 0, .int .u64 0] t)) w.heap.size (fun _ => 0) := by
  refine ⟨fun i hi => ?_, fun i => by simp [go_sem]⟩
  have h : i = 0 ∨ i = 1 ∨ i = 2 ∨ i = 3 ∨ i = 4 ∨ i = 5 ∨ i = 6 ∨ i = 7 ∨ i = 8 ∨ i = 9 ∨ i = 10 ∨ i = 11 ∨ i = 12 ∨ i = 13 ∨ i = 14 ∨ i = 15 := by omega
  rcases h with rfl | rfl | rfl | rfl | rfl | rfl | rfl | rfl | rfl | rfl | rfl | rfl | rfl | rfl | rfl | rfl <;> simp [go_sem]
theorem CntU.alloc {w : World} {p : Nat} {f : Nat → Nat} (h : CntU w p f) (o : Obj) : CntU (w.alloc o) p f := h.grown (World.grownBy_alloc w o none) (by simp)
theorem CntU.set {w : World} {p : Nat} {f : Nat → Nat} (h : CntU w p f) {l : Nat} (hl : l < 16) (v : Nat) : CntU (w.setCell ⟨p, l, none⟩ (.int .u64 v)) p (fun i => if i = l then v else f i) := by
  refine ⟨fun i hi => ?_, fun i => by rw [World.frozen?_setCell]; exact h.free i⟩
  by_cases e : i = l
  · subst e
    rw [World.cell?_setCell_same _ _ _ (h.at_ i hi)]
    simp
  · have e' : ¬ l = i := fun h => e h.symm
    rw [World.cell?_setCell_other _ _ _ _ (by simp), h.at_ i hi]
    simp [e]

theorem CntU.congr16 {w : World} {p : Nat} {f g : Nat → Nat} (h : CntU w p f) (e : ∀ i, i < 16 → f i = g i) : CntU w p g := ⟨fun i hi => by rw [← e i hi]; exact h.at_ i hi, h.free⟩

/-- The first code of each length. -/
def fst (f : Nat → Nat) : Nat → Nat
  | 0 => 0
  | 1 => 0
  | l + 2 => 2 * (fst f (l + 1) + f (l + 1))
theorem fst_le (f : Nat → Nat) (hf : ∀ i, f i ≤ 320) : ∀ l, fst f l + 640 ≤ 640 * 2 ^ l
  | 0 => by simp [fst]
  | 1 => by simp [fst]
  | l + 2 => by
    have h1 := fst_le f hf (l + 1)
    have h2 := hf (l + 1)
    have e : 2 ^ (l + 2) = 2 * 2 ^ (l + 1) := by rw [Nat.pow_succ]; omega
    rw [fst, e]
    omega
/-- The first n of them. -/
def fstTo (f : Nat → Nat) (n i : Nat) : Nat := if i < n then fst f i else 0

set_option maxRecDepth 100000 in
set_option maxHeartbeats 3200000 in
theorem firstCodes_any (f : Nat → Nat) (L : List Value) (w : World) (hl : L.length = 16) (hL : ∀ i, i < 16 → L[i]? = some (Value.int .i64 (f i : Nat))) (hf : ∀ i, f i ≤ 320) :
    Calls Try.prog 42 #[.agg L.toArray] w fun e w' => e = .returned (.agg (cells16u (fst f)).toArray) ∧ Below w.heap.size w w' := by
  have hC : ∀ i, i < 16 → (w.alloc (.cells L.toArray 65)).cell? ⟨w.heap.size, i, none⟩ = some (.int .i64 (f i : Nat)) := by
    intro i hi
    have := hL i hi
    simp [go_sem, this]
  have C0 : Cnts (w.alloc (.cells L.toArray 65)) w.heap.size f := ⟨hC, fun i => by simp [go_sem]⟩
  have C2 := (C0.alloc (.cells #[.int .u64 0, .int .u64 0, .int .u64 0, .int .u64 0, .int .u64 0, .int .u64 0, .int .u64 0, .int .u64 0, .int .u64 0, .int .u64 0, .int .u64 0, .int .u64 0, .int .u64 0, .int .u64 0, .int .u64 0, .int .u64 0] 69)).alloc (.cells #[.int .u64 0, .int .u64 0, .int .u64 0, .int .u64 0, .int .u64 0, .int .u64 0, .int .u64 0, .int .u64 0, .int .u64 0, .int .u64 0, .int .u64 0, .int .u64 0, .int .u64 0, .int .u64 0, .int .u64 0, .int .u64 0] 69)
  have R2 := (CntU.new (w.alloc (.cells L.toArray 65)) 69).alloc (.cells #[.int .u64 0, .int .u64 0, .int .u64 0, .int .u64 0, .int .u64 0, .int .u64 0, .int .u64 0, .int .u64 0, .int .u64 0, .int .u64 0, .int .u64 0, .int .u64 0, .int .u64 0, .int .u64 0, .int .u64 0, .int .u64 0] 69)
  have F2 := CntU.new ((w.alloc (.cells L.toArray 65)).alloc (.cells #[.int .u64 0, .int .u64 0, .int .u64 0, .int .u64 0, .int .u64 0, .int .u64 0, .int .u64 0, .int .u64 0, .int .u64 0, .int .u64 0, .int .u64 0, .int .u64 0, .int .u64 0, .int .u64 0, .int .u64 0, .int .u64 0] 69)) 69
  have B2 : Below w.heap.size w (((w.alloc (.cells L.toArray 65)).alloc (.cells #[.int .u64 0, .int .u64 0, .int .u64 0, .int .u64 0, .int .u64 0, .int .u64 0, .int .u64 0, .int .u64 0, .int .u64 0, .int .u64 0, .int .u64 0, .int .u64 0, .int .u64 0, .int .u64 0, .int .u64 0, .int .u64 0] 69)).alloc (.cells #[.int .u64 0, .int .u64 0, .int .u64 0, .int .u64 0, .int .u64 0, .int .u64 0, .int .u64 0, .int .u64 0, .int .u64 0, .int .u64 0, .int .u64 0, .int .u64 0, .int .u64 0, .int .u64 0, .int .u64 0, .int .u64 0] 69)) := (((Below.refl _ _).alloc (Nat.le_refl _) _).alloc (by simp) _).alloc (by simp; omega) _
  simp only [World.size_alloc] at R2 F2
  have HC2 := hideH C2
  have HR2 := hideH R2
  have HF2 := hideH F2
  have HB2 := hideH B2
  have HF := hideH hf
  clear hC C0 C2 R2 F2 B2 hf hL hl
  go_enter Try.func42, Try.ntmps42
  go_wp2_with fail
  go_loopw [4] (fun i wr => ∃ j : Nat, j ≤ 14 ∧ i = .int .i64 ((j + 2 : Nat) : Int) ∧ Cnts wr w.heap.size f ∧ CntU wr (w.heap.size + 1 + 1) (fstTo f (j + 2)) ∧ (∃ g, CntU wr (w.heap.size + 1) g) ∧ Below w.heap.size w wr) (fun i _ => 16 - (intOf i).toNat)
  case atStart =>
    refine ⟨0, by omega, rfl, HC2.out, HF2.out.congr (fun i => ?_), ⟨_, HR2.out⟩, HB2.out⟩
    unfold fstTo
    split
    · rename_i h
      have : i = 0 ∨ i = 1 := by omega
      rcases this with rfl | rfl <;> rfl
    · rfl
  case round =>
    clear HC2 HR2 HF2 HB2
    obtain ⟨j, hj, rfl, hC, hU, ⟨g, hG⟩, hB⟩ := hrel
    by_cases hlt : j < 14
    · obtain ⟨Lh, hLh⟩ : ∃ Lh, j + 2 = Lh := ⟨_, rfl⟩
      obtain ⟨M, hM⟩ : ∃ M, j + 1 = M := ⟨_, rfl⟩
      have hLM : (Lh : Int) - 1 = (M : Int) := by omega
      have hM16 : M < 16 := by omega
      have hL16 : Lh < 16 := by omega
      have cu := hU.at_ M hM16
      have cc := hC.at_ M hM16
      have cl := hU.at_ Lh hL16
      have fl := hU.free Lh
      have hfm : fstTo f (j + 2) M = fst f M := if_pos (by omega)
      rw [hfm] at cu
      have hfC := HF.out M
      have hfA : fst f M ≤ 640 * 2 ^ M := Nat.le_trans (Nat.le_add_right _ _) (fst_le f HF.out M)
      have hpM : 2 ^ M ≤ 32768 := Nat.le_trans (Nat.pow_le_pow_right (by decide) (by omega : M ≤ 15)) (by decide)
      have hfA2 : fst f M ≤ 20971520 := Nat.le_trans hfA (Nat.le_trans (Nat.mul_le_mul_left 640 hpM) (by decide))
      have hnew : fst f Lh = 2 * (fst f M + f M) := by rw [← hLh, ← hM]; rfl
      obtain ⟨S, hS⟩ : ∃ S : Nat, (fst f M : Int) + (f M : Int) = (S : Int) := ⟨fst f M + f M, by omega⟩
      obtain ⟨T, hT⟩ : ∃ T : Nat, (S : Int) * 2 = (T : Int) := ⟨S * 2, by omega⟩
      have hTe : T = fst f Lh := by omega
      have hU2 := (hU.set hL16 T).congr (g := fstTo f (j + 1 + 2)) (fun i => by
        unfold fstTo
        by_cases e : i = Lh
        · rw [if_pos e, if_pos (by omega), e]; exact hTe
        · rw [if_neg e]
          by_cases h2 : i < j + 2
          · rw [if_pos h2, if_pos (by omega)]
          · rw [if_neg h2, if_neg (by omega)])
      have hg : wr.grownBy (wr.setCell ⟨w.heap.size + 1 + 1, Lh, none⟩ (.int .u64 T)) (some (w.heap.size + 1 + 1)) := grownBy_setCell _ _ _
      have HU2 : Hid (CntU (wr.setCell ⟨w.heap.size + 1 + 1, Lh, none⟩ (.int .u64 T)).drew (w.heap.size + 1 + 1) (fstTo f (j + 1 + 2))) := ⟨hU2.at_, hU2.free⟩
      have hC2 := hC.grown hg (by simp; omega)
      have HC2 : Hid (Cnts (wr.setCell ⟨w.heap.size + 1 + 1, Lh, none⟩ (.int .u64 T)).drew w.heap.size f) := ⟨hC2.at_, hC2.free⟩
      have hG2 := hG.grown hg (by simp)
      have HG2 : Hid (CntU (wr.setCell ⟨w.heap.size + 1 + 1, Lh, none⟩ (.int .u64 T)).drew (w.heap.size + 1) g) := ⟨hG2.at_, hG2.free⟩
      have HB2 : Hid (Below w.heap.size w (wr.setCell ⟨w.heap.size + 1 + 1, Lh, none⟩ (.int .u64 T)).drew) := (hB.grown hg hB.size (by intro q e; simp at e; omega)).drew
      have w1 : IntKind.i64.wrap (M : Int) = (M : Int) := by rw [IntKind.wrap_i64]; omega
      have w2 : IntKind.u64.wrap (f M : Int) = (f M : Int) := by rw [IntKind.wrap_u64]; omega
      have w3 : IntKind.u64.wrap (S : Int) = (S : Int) := by rw [IntKind.wrap_u64]; omega
      have w4 : IntKind.u64.wrap (T : Int) = (T : Int) := by rw [IntKind.wrap_u64]; omega
      have m1 : (M : Int) < 16 := by omega
      have m2 : (Lh : Int) < 16 := by omega
      have hmeas : Hid (j + 2 = Lh) := hLh
      have hLi : ((j + 2 : Nat) : Int) = (Lh : Int) := by omega
      rw [hLi]
      generalize fst f M = A at *
      generalize f M = Cm at *
      generalize fstTo f (j + 2) Lh = Z at *
      clear hU hC hG hB hU2 hC2 hG2 hg hLh hM hnew hTe hfA hpM hLi hfm
      go_wp2_with fail
      go_region
      go_wp2_with fail
      go_roundw
      case rel => exact ⟨j + 1, by omega, by have := hmeas.out; simp; omega, HC2.out, HU2.out, ⟨g, HG2.out⟩, HB2.out⟩
      case measure => have := hmeas.out; simp [intOf]; omega
    · have e : j = 14 := by omega
      subst e
      have hU' := hU.congr16 (g := fst f) (fun i hi => if_pos (by omega))
      obtain ⟨K, hK⟩ : ∃ K, cells16u (fst f) = K := ⟨_, rfl⟩
      have hrg := hU'.range
      have hth := hG.there
      have hone := cells16u_one (fst f)
      have hlen := cells16u_len (fst f)
      rw [hK] at hrg hone hlen
      have hsz : (Try.prog.info? 69).map (·.size) = some K.length := by rw [hlen]; exact Try.size_cntu
      have hth2 : wr.there (w.heap.size + 1) 0 K.length := by rw [hlen]; exact hth
      have HBS : Hid (Below w.heap.size w (wr.setCells (w.heap.size + 1) 0 K)) := hB.grown (grownBy_setCells (w.heap.size + 1) K 0 wr) hB.size (by intro q e; simp at e; omega)
      have HK := hideH hK
      have HON := hideH (all_oneCell_toArray hone)
      have HLV := hideH (run_loadVar_mid (P := Try.prog) _ (w.heap.size + 1) 0 69 K _ (World.rangeAt_setCells_same wr (w.heap.size + 1) 0 K hth2) Try.underlying69 rfl hsz)
      clear hth hC hU hU' hG hK hone hlen
      go_wp2_with (first | (refine wpList_load_mid rfl _ _ rfl _ _ rfl K _ hrg Try.underlying69 rfl hsz ?_) | (refine wpList_store_mid rfl _ _ _ rfl (w.heap.size + 1) 0 K.toArray rfl rfl (by simpa using hth2) (by simpa using hsz) HON.out ?_))
      exact bodyPost_ret (v := .agg K.toArray) (by simp [results, Try.results42, asAddr, Act.put, HLV.out]) rfl ⟨by rw [HK.out], HBS.out⟩

end Go.Proofs.Ytmfacacpoajpgac
