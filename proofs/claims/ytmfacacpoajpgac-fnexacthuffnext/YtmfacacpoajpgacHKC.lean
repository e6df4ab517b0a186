import Derived.Test.YtmfacacpoajpgacHKI
namespace Go.Proofs.Ytmfacacpoajpgac
open Go.RowKit
attribute [local go_sem ↓] Go.wp_at_zero Go.wp_at_succ
set_option linter.unusedVariables false

/-- The counts lie at p. -/
structure Cnts (w : World) (p : Nat) (f : Nat → Nat) : Prop where
  at_ : ∀ i, i < 16 → w.cell? ⟨p, i, none⟩ = some (.int .i64 (f i : Nat))
  free : ∀ i, w.frozen? ⟨p, i, none⟩ = false
theorem Cnts.lt {w : World} {p : Nat} {f : Nat → Nat} (h : Cnts w p f) : p < w.heap.size := World.block_lt_of_cell? w _ (h.at_ 0 (by omega))
theorem Cnts.grown {w w' : World} {row : Option Nat} {p : Nat} {f : Nat → Nat} (h : Cnts w p f) (hg : w.grownBy w' row) (hne : some p ≠ row) : Cnts w' p f := by
  have e := hg.block p h.lt hne
  exact ⟨fun i hi => (World.cell?_of_block (w := w) e).trans (h.at_ i hi), fun i => (World.frozen?_of_block (w := w) e).trans (h.free i)⟩
theorem Cnts.range {w : World} {p : Nat} {f : Nat → Nat} (h : Cnts w p f) : w.rangeAt p 0 (cells16 f) := by
  intro j v hv
  have hj : j < 16 := by
    have h1 := (List.getElem?_eq_some_iff.1 hv).1
    rwa [cells16_len] at h1
  rw [cells16_at f j hj] at hv
  simp only [Option.some.injEq] at hv
  subst hv
  rw [Nat.zero_add]
  exact h.at_ j hj
theorem Cnts.there {w : World} {p : Nat} {f : Nat → Nat} (h : Cnts w p f) : w.there p 0 16 := by
  intro j hj
  rw [Nat.zero_add, h.at_ j hj]
  exact ⟨rfl, h.free j⟩
theorem Cnts.bump {w : World} {p : Nat} {f : Nat → Nat} (h : Cnts w p f) {l : Nat} (hl : l < 16) (v : Int) (hv : v = ((f l + 1 : Nat) : Int)) : Cnts (w.setCell ⟨p, l, none⟩ (.int .i64 v)) p (fun i => f i + if i = l then 1 else 0) := by
  refine ⟨fun i hi => ?_, fun i => by rw [World.frozen?_setCell]; exact h.free i⟩
  by_cases e : i = l
  · subst e; subst hv
    rw [World.cell?_setCell_same _ _ _ (h.at_ i hi)]
    simp
  · have e' : ¬ l = i := fun h => e h.symm
    rw [World.cell?_setCell_other _ _ _ _ (by simp), h.at_ i hi]
    simp [e]
theorem Cnts.congr {w : World} {p : Nat} {f g : Nat → Nat} (h : Cnts w p f) (e : ∀ i, f i = g i) : Cnts w p g := ⟨fun i hi => by rw [← e]; exact h.at_ i hi, h.free⟩
theorem Try.size_cnts : (Try.prog.info? 65).map (·.size) = some 16 := by kernel_rfl
theorem cells16_one (f : Nat → Nat) : ∀ v ∈ cells16 f, v.oneCell' = true := by
  intro v hv
  simp only [cells16, List.mem_map] at hv
  obtain ⟨i, _, rfl⟩ := hv
  rfl

theorem Cnts.new (w : World) (t : TypeId) : Cnts (w.alloc (.cells #[.int .i64 0, .int .i64 0, .int .i64 0, .int .i64 0, .int .i64 0, .int .i64 0, .int .i64 0, .int .i64 0, .int .i64 0, .int .i64 0, .int .i64 0, .int .i64 0, .int .i64 0, .int .i64 0, .int .i64 0, .int .i64 0] t)) w.heap.size (fun _ => 0) := by
  refine ⟨fun i hi => ?_, fun i => by simp [go_sem]⟩
  have h : i = 0 ∨ i = 1 ∨ i = 2 ∨ i = 3 ∨ i = 4 ∨ i = 5 ∨ i = 6 ∨ i = 7 ∨ i = 8 ∨ i = 9 ∨ i = 10 ∨ i = 11 ∨ i = 12 ∨ i = 13 ∨ i = 14 ∨ i = 15 := by omega
  rcases h with rfl | rfl | rfl | rfl | rfl | rfl | rfl | rfl | rfl | rfl | rfl | rfl | rfl | rfl | rfl | rfl <;> simp [go_sem]
theorem grownBy_setCells (b : Nat) : ∀ (vs : List Value) (o : Nat) (w : World), w.grownBy (w.setCells b o vs) (some b)
  | [], _, w => World.grownBy.refl _ _
  | v :: r, o, w => grownBy_trans (grownBy_setCell w ⟨b, o, none⟩ v) (grownBy_setCells b r (o + 1) _)
theorem Cnts.alloc {w : World} {p : Nat} {f : Nat → Nat} (h : Cnts w p f) (o : Obj) : Cnts (w.alloc o) p f := h.grown (World.grownBy_alloc w o none) (by simp)

set_option maxRecDepth 100000 in
set_option maxHeartbeats 6400000 in
theorem countLens_any (ao : Option Addr) (cap : Nat) (zs : List Int) (w : World) (hr : Row64 w ao zs) (hn : zs.length ≤ 1048576) :
    Calls Try.prog 40 #[.slice ao zs.length cap] w fun e w' => (∃ L : List Value, e = .returned (.tuple #[.agg L.toArray, .bool (okB zs)]) ∧ L.length = 16 ∧ (∀ v ∈ L, v.oneCell' = true) ∧ (okB zs = true → L = cells16 (cnt zs))) ∧ Below w.heap.size w w' := by
  have hN1 := (Cnts.new (w.alloc (.cells #[.int .i64 0, .int .i64 0, .int .i64 0, .int .i64 0, .int .i64 0, .int .i64 0, .int .i64 0, .int .i64 0, .int .i64 0, .int .i64 0, .int .i64 0, .int .i64 0, .int .i64 0, .int .i64 0, .int .i64 0, .int .i64 0] 65)) 65)
  have hN0 := (Cnts.new w 65).alloc (.cells #[.int .i64 0, .int .i64 0, .int .i64 0, .int .i64 0, .int .i64 0, .int .i64 0, .int .i64 0, .int .i64 0, .int .i64 0, .int .i64 0, .int .i64 0, .int .i64 0, .int .i64 0, .int .i64 0, .int .i64 0, .int .i64 0] 65)
  have hB0 : Below w.heap.size w ((w.alloc (.cells #[.int .i64 0, .int .i64 0, .int .i64 0, .int .i64 0, .int .i64 0, .int .i64 0, .int .i64 0, .int .i64 0, .int .i64 0, .int .i64 0, .int .i64 0, .int .i64 0, .int .i64 0, .int .i64 0, .int .i64 0, .int .i64 0] 65)).alloc (.cells #[.int .i64 0, .int .i64 0, .int .i64 0, .int .i64 0, .int .i64 0, .int .i64 0, .int .i64 0, .int .i64 0, .int .i64 0, .int .i64 0, .int .i64 0, .int .i64 0, .int .i64 0, .int .i64 0, .int .i64 0, .int .i64 0] 65)) := ((Below.refl _ _).alloc (Nat.le_refl _) _).alloc (by simp) _
  simp only [World.size_alloc] at hN1
  have HN1 := hideH hN1
  have HN0 := hideH hN0
  have HB0 := hideH hB0
  have HR := hideH hr
  clear hN1 hN0 hB0 hr
  by_cases hl : zs.length ≤ 320
  · go_enter Try.func40, Try.ntmps40
    go_wp2_with fail
    go_loopw [13] (fun i wr => ∃ k : Nat, k ≤ zs.length ∧ i = .int .i64 k ∧ Cnts wr (w.heap.size + 1) (cnt (zs.take k)) ∧ Hid (okL (zs.take k)) ∧ (∃ f0, Cnts wr w.heap.size f0) ∧ Below w.heap.size w wr) (fun i _ => zs.length - (intOf i).toNat)
    case atStart => exact ⟨0, Nat.zero_le _, rfl, HN1.out.congr (fun i => by simp [cnt]), (fun z hz => by simp at hz : okL (zs.take 0)), ⟨_, HN0.out⟩, HB0.out⟩
    case round =>
      clear HN1 HN0 HB0
      obtain ⟨k, hk, rfl, hC, HO, ⟨f0, hF0⟩, hB⟩ := hrel
      by_cases hlt : k < zs.length
      · obtain ⟨b, off, rfl, hc⟩ := HR.out.at hlt
        have hb : b < w.heap.size := World.block_lt_of_cell? w _ (hc k hlt)
        have hcx : wr.cell? ⟨b, off + k, none⟩ = some (.int .i64 (zs.getD k 0)) := (hB.cell (by exact hb)).trans (hc k hlt)
        have HBAD : Hid (¬ (0 ≤ zs.getD k 0 ∧ zs.getD k 0 ≤ 15) → okB zs = false) := fun h => okB_bad hlt h
        have HOS : Hid ((0 ≤ zs.getD k 0 ∧ zs.getD k 0 ≤ 15) → okL (zs.take (k + 1))) := fun h => okL_take_succ hlt HO.out h
        have HTS : Hid (∀ i, cnt (zs.take (k + 1)) i = cnt (zs.take k) i + if zs.getD k 0 = (i : Int) then 1 else 0) := by
          intro i
          rw [take_snoc zs k hlt, cnt_app]
        generalize zs.getD k 0 = x at *
        by_cases x0 : x < 0
        · have d0 : decide (x < 0) = true := decide_eq_true x0
          have HF : Hid (okB zs = false) := HBAD.out (by omega)
          obtain ⟨L, hL⟩ : ∃ L, cells16 (cnt (zs.take k)) = L := ⟨_, rfl⟩
          have hrg := hC.range
          have hth := hF0.there
          have hone := cells16_one (cnt (zs.take k))
          have hlen := cells16_len (cnt (zs.take k))
          rw [hL] at hrg hone hlen
          have hsz : (Try.prog.info? 65).map (·.size) = some L.length := by rw [hlen]; exact Try.size_cnts
          have hth2 : wr.there w.heap.size 0 L.length := by rw [hlen]; exact hth
          have HRS := hideH (World.rangeAt_setCells_same wr w.heap.size 0 L hth2)
          have HBS : Hid (Below w.heap.size w (wr.setCells w.heap.size 0 L)) := hB.grown (grownBy_setCells w.heap.size L 0 wr) hB.size (by intro q e; simp at e; omega)
          have HL := hideH hL
          have HLN := hideH hlen
          have HOV := hideH hone
          have HON := hideH (all_oneCell_toArray hone)
          have HLD := fun W (h : W.rangeAt w.heap.size 0 L) => run_loadVar_mid (P := Try.prog) W w.heap.size 0 65 L _ h Try.underlying65 rfl hsz
          have HLV := hideH (HLD _ HRS.out)
          clear hth hC hF0 hL hone hlen HLD HRS
          go_wp2_with (first | (refine wpList_load_mid rfl _ _ rfl _ _ rfl L _ hrg Try.underlying65 rfl hsz ?_) | (refine wpList_store_mid rfl _ _ _ rfl w.heap.size 0 L.toArray rfl rfl (by simpa using hth2) (by simpa using hsz) HON.out ?_))
          refine bodyPost_ret (v := .tuple #[.agg L.toArray, .bool false]) (by simp [results, Try.results40, asAddr, HLV.out]) rfl ⟨⟨L, ?_, HLN.out, HOV.out, ?_⟩, HBS.out⟩
          · rw [HF.out]
          · intro h; rw [HF.out] at h; cases h
        have d0 : decide (x < 0) = false := decide_eq_false x0
        by_cases x1 : 15 < x
        · have d1 : decide (15 < x) = true := decide_eq_true x1
          have HF : Hid (okB zs = false) := HBAD.out (by omega)
          obtain ⟨L, hL⟩ : ∃ L, cells16 (cnt (zs.take k)) = L := ⟨_, rfl⟩
          have hrg := hC.range
          have hth := hF0.there
          have hone := cells16_one (cnt (zs.take k))
          have hlen := cells16_len (cnt (zs.take k))
          rw [hL] at hrg hone hlen
          have hsz : (Try.prog.info? 65).map (·.size) = some L.length := by rw [hlen]; exact Try.size_cnts
          have hth2 : wr.there w.heap.size 0 L.length := by rw [hlen]; exact hth
          have HRS := hideH (World.rangeAt_setCells_same wr w.heap.size 0 L hth2)
          have HBS : Hid (Below w.heap.size w (wr.setCells w.heap.size 0 L)) := hB.grown (grownBy_setCells w.heap.size L 0 wr) hB.size (by intro q e; simp at e; omega)
          have HL := hideH hL
          have HLN := hideH hlen
          have HOV := hideH hone
          have HON := hideH (all_oneCell_toArray hone)
          have HLD := fun W (h : W.rangeAt w.heap.size 0 L) => run_loadVar_mid (P := Try.prog) W w.heap.size 0 65 L _ h Try.underlying65 rfl hsz
          have HLV := hideH (HLD _ HRS.out)
          clear hth hC hF0 hL hone hlen HLD HRS
          go_wp2_with (first | (refine wpList_load_mid rfl _ _ rfl _ _ rfl L _ hrg Try.underlying65 rfl hsz ?_) | (refine wpList_store_mid rfl _ _ _ rfl w.heap.size 0 L.toArray rfl rfl (by simpa using hth2) (by simpa using hsz) HON.out ?_))
          refine bodyPost_ret (v := .tuple #[.agg L.toArray, .bool false]) (by simp [results, Try.results40, asAddr, HLV.out]) rfl ⟨⟨L, ?_, HLN.out, HOV.out, ?_⟩, HBS.out⟩
          · rw [HF.out]
          · intro h; rw [HF.out] at h; cases h
        have d1 : decide (15 < x) = false := decide_eq_false x1
        have HOT := hideH (HOS.out (by omega))
        obtain ⟨l, rfl⟩ : ∃ l : Nat, x = l := ⟨x.toNat, by omega⟩
        have hl16 : l < 16 := by omega
        have hcl := hC.at_ l hl16
        have hfl := hC.free l
        have hcb : cnt (zs.take k) l ≤ 320 := Nat.le_trans (cnt_le _ _) (by simp; omega)
        have hC2 := hC.bump hl16 ((cnt (zs.take k) l : Nat) + 1 : Int) (by simp)
        have HC2 : Hid (Cnts (wr.setCell ⟨w.heap.size + 1, l, none⟩ (.int .i64 ((cnt (zs.take k) l : Nat) + 1 : Int))) (w.heap.size + 1) (cnt (zs.take (k + 1)))) := hC2.congr (fun i => by
          rw [HTS.out i]
          by_cases h : i = l
          · simp [h]
          · have h' : ¬ (l : Int) = (i : Int) := by omega
            simp [h, h'])
        have hg := grownBy_setCell wr ⟨w.heap.size + 1, l, none⟩ (.int .i64 ((cnt (zs.take k) l : Nat) + 1 : Int))
        have HF2 := hideH (hF0.grown hg (by simp))
        have HB2 := hideH (hB.grown hg hB.size (by intro q e; simp at e; omega))
        have h1 : (l : Int) ≤ 15 := by omega
        clear hc hC hF0 hB HTS hC2 hg HBAD HOS
        generalize cnt (zs.take k) l = Cn at *
        go_wp2_with fail
        go_roundw
        case rel => exact ⟨k + 1, by omega, by go_num, HC2.out, HOT, ⟨_, HF2.out⟩, HB2.out⟩
        case measure => simp [intOf]; omega
      · have e : k = zs.length := by omega
        have HF : Hid (okB zs = true) := okB_of hl (by have := HO.out; rw [e, List.take_length] at this; exact this)
        have HE : Hid (cnt (zs.take k) = cnt zs) := by show _ = _; rw [e, List.take_length]
        clear e
        obtain ⟨L, hL⟩ : ∃ L, cells16 (cnt (zs.take k)) = L := ⟨_, rfl⟩
        have hrg := hC.range
        have hth := hF0.there
        have hone := cells16_one (cnt (zs.take k))
        have hlen := cells16_len (cnt (zs.take k))
        rw [hL] at hrg hone hlen
        have hsz : (Try.prog.info? 65).map (·.size) = some L.length := by rw [hlen]; exact Try.size_cnts
        have hth2 : wr.there w.heap.size 0 L.length := by rw [hlen]; exact hth
        have HRS := hideH (World.rangeAt_setCells_same wr w.heap.size 0 L hth2)
        have HBS : Hid (Below w.heap.size w (wr.setCells w.heap.size 0 L)) := hB.grown (grownBy_setCells w.heap.size L 0 wr) hB.size (by intro q e; simp at e; omega)
        have HL := hideH hL
        have HLN := hideH hlen
        have HOV := hideH hone
        have HON := hideH (all_oneCell_toArray hone)
        have HLD := fun W (h : W.rangeAt w.heap.size 0 L) => run_loadVar_mid (P := Try.prog) W w.heap.size 0 65 L _ h Try.underlying65 rfl hsz
        have HLV := hideH (HLD _ HRS.out)
        clear hth hC hF0 hL hone hlen HLD HRS
        go_wp2_with (first | (refine wpList_load_mid rfl _ _ rfl _ _ rfl L _ hrg Try.underlying65 rfl hsz ?_) | (refine wpList_store_mid rfl _ _ _ rfl w.heap.size 0 L.toArray rfl rfl (by simpa using hth2) (by simpa using hsz) HON.out ?_))
        refine bodyPost_ret (v := .tuple #[.agg L.toArray, .bool true]) (by simp [results, Try.results40, asAddr, HLV.out]) rfl ⟨⟨L, ?_, HLN.out, HOV.out, ?_⟩, HBS.out⟩
        · rw [HF.out]
        · intro _; rw [← HL.out, HE.out]
  · have HF : Hid (okB zs = false) := okB_long hl
    have hC := HN1.out
    have hF0 := HN0.out
    have hB := HB0.out
    obtain ⟨wr, hwr⟩ : ∃ wr, wr = (w.alloc (.cells #[.int .i64 0, .int .i64 0, .int .i64 0, .int .i64 0, .int .i64 0, .int .i64 0, .int .i64 0, .int .i64 0, .int .i64 0, .int .i64 0, .int .i64 0, .int .i64 0, .int .i64 0, .int .i64 0, .int .i64 0, .int .i64 0] 65)).alloc (.cells #[.int .i64 0, .int .i64 0, .int .i64 0, .int .i64 0, .int .i64 0, .int .i64 0, .int .i64 0, .int .i64 0, .int .i64 0, .int .i64 0, .int .i64 0, .int .i64 0, .int .i64 0, .int .i64 0, .int .i64 0, .int .i64 0] 65) := ⟨_, rfl⟩
    rw [← hwr] at hC hF0 hB
    obtain ⟨L, hL⟩ : ∃ L, cells16 (fun _ => 0) = L := ⟨_, rfl⟩
    have hrg := hC.range
    have hth := hF0.there
    have hone := cells16_one (fun _ => 0)
    have hlen := cells16_len (fun _ => 0)
    rw [hL] at hrg hone hlen
    have hsz : (Try.prog.info? 65).map (·.size) = some L.length := by rw [hlen]; exact Try.size_cnts
    have hth2 : wr.there w.heap.size 0 L.length := by rw [hlen]; exact hth
    have HRS := hideH (World.rangeAt_setCells_same wr w.heap.size 0 L hth2)
    have HBS : Hid (Below w.heap.size w (wr.setCells w.heap.size 0 L)) := hB.grown (grownBy_setCells w.heap.size L 0 wr) hB.size (by intro q e; simp at e; omega)
    have HLN := hideH hlen
    have HOV := hideH hone
    have HON := hideH (all_oneCell_toArray hone)
    have HLV := hideH (run_loadVar_mid (P := Try.prog) _ w.heap.size 0 65 L _ HRS.out Try.underlying65 rfl hsz)
    subst hwr
    clear hth hC hF0 hL hone hlen HRS
    go_enter Try.func40, Try.ntmps40
    go_wp2_with (first | (refine wpList_load_mid rfl _ _ rfl _ _ rfl L _ hrg Try.underlying65 rfl hsz ?_) | (refine wpList_store_mid rfl _ _ _ rfl w.heap.size 0 L.toArray rfl rfl (by simpa using hth2) (by simpa using hsz) HON.out ?_))
    refine bodyPost_ret (v := .tuple #[.agg L.toArray, .bool false]) (by simp [results, Try.results40, asAddr, HLV.out]) rfl ⟨⟨L, ?_, HLN.out, HOV.out, ?_⟩, HBS.out⟩
    · rw [HF.out]
    · intro h; rw [HF.out] at h; cases h

end Go.Proofs.Ytmfacacpoajpgac
