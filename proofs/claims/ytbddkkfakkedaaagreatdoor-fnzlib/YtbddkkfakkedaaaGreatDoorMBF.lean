import Derived.Deep.RegionLaw
import Derived.Deep.AppendLies
import Derived.Deep.Cut
import Derived.Test.YtbddkkfakkedaaaGreatDoorMAR
import Derived.Test.YtbddkkfakkedaaaGreatDoorMBE
namespace Go.Proofs.YtbddkkfakkedaaaGreatDoor
open Go.RowKit
attribute [local go_sem ↓] Go.wp_at_zero Go.wp_at_succ
set_option linter.unusedVariables false

theorem own_base {w : World} {B : Nat} {v : Value} {n : Nat} {xs : List Value} (h : w.ownsRow B 2 1 v n xs) : ∀ k, v.ownBlock = some k → B ≤ k := by
  intro k e
  rcases h.2 with ⟨rfl, _⟩ | ⟨g, cap, cur, rfl, hb, _⟩
  · cases e
  · simp [Value.ownBlock] at e
    omega
/-- The lengths have grown. -/
theorem LMem.grow {q p hB : Nat} {zs : List Int} {rdy : Value} {w : World} {c : LC} (h : LMem q p hB zs rdy w c) {B : Nat} {v : Value} (b1 : q < B) (b2 : p < B) (b3 : hB < B) (b4 : B ≤ w.heap.size) (b5 : w.cell? ⟨q, 26, none⟩ = some v) (b6 : w.ownsRow B 2 1 v c.lens.length (c.lens.map (Value.int .i64)))
    (b8 : 4 ≤ c.st → ∃ t S m L w0, w.cell? ⟨q, 25, none⟩ = some (.pointer (some ⟨t, 0, none⟩)) ∧ TabOf c.tb w0 t S m L ∧ q < t ∧ p < t ∧ w0.heap.size ≤ B ∧ ∀ k, t ≤ k → k < w0.heap.size → w.heap[k]? = w0.heap[k]?) (hst : 4 ≤ c.st)
    {w5 w6 : World} (hb : Below w.heap.size w w5) {g cap' m : Nat} {new : List Int} (hm : new.length = m) (hg : w5.grownBy w6 v.ownBlock) (ho : w6.ownsRow B 2 1 (.slice (some ⟨g, 0, none⟩) (c.lens.length + m) cap') (c.lens.length + m) (c.lens.map (Value.int .i64) ++ new.map (Value.int .i64))) (hat : v.ownBlock = some g ∨ g = w5.heap.size) :
    LMem q p hB zs rdy (w6.setCell ⟨q, 26, none⟩ (.slice (some ⟨g, 0, none⟩) (c.lens.length + m) cap')) { c with lens := c.lens ++ new } ∧ Trod q p w (w6.setCell ⟨q, 26, none⟩ (.slice (some ⟨g, 0, none⟩) (c.lens.length + m) cap')) := by
  have hbase := own_base b6
  have hq := h.lt
  have hs5 := hb.size
  have hs6 := hg.size
  have hBg : B ≤ g := by
    rcases hat with e | e
    · exact hbase g e
    · omega
  have hk : ∀ k, k < B → w6.heap[k]? = w.heap[k]? := fun k hk => (hg.block k (by omega) (fun e => by have := hbase k e.symm; omega)).trans (hb.block k (by omega))
  obtain ⟨V, hV⟩ : ∃ V, Value.slice (some ⟨g, 0, none⟩) (c.lens.length + m) cap' = V := ⟨_, rfl⟩
  have hVo : V.ownBlock = some g := by rw [← hV]; rfl
  rw [hV] at ho ⊢
  have hgs := grownBy_setCell w6 ⟨q, 26, none⟩ V
  have hc6 : ∀ o, w6.cell? ⟨q, o, none⟩ = w.cell? ⟨q, o, none⟩ := fun o => World.cell?_of_block (w := w) (a := ⟨q, o, none⟩) (hk q b1)
  have hc : ∀ o, o ≠ 26 → (w6.setCell ⟨q, 26, none⟩ V).cell? ⟨q, o, none⟩ = w.cell? ⟨q, o, none⟩ := fun o ho => (World.cell?_setCell_other _ _ _ _ (by first | (simp; done) | (simp; omega))).trans (hc6 o)
  have h26 : (w6.setCell ⟨q, 26, none⟩ V).cell? ⟨q, 26, none⟩ = some V := World.cell?_setCell_same _ _ _ ((hc6 26).trans b5)
  have hk2 : ∀ k, k < B → k ≠ q → (w6.setCell ⟨q, 26, none⟩ V).heap[k]? = w.heap[k]? := fun k h1 h2 => (hgs.block k (by omega) (by simpa using h2)).trans (hk k h1)
  have h2' := h.two
  refine ⟨⟨h.ne, h.neh, h.two, ?_, (hc 0 (by omega)).trans h.c0, ?_, ?_, ?_, (hc 28 (by omega)).trans h.c28, ?_, ?_, ?_, ?_⟩, ?_⟩
  · exact ((h.rd.below hb).grown hg (fun e => by have := hbase p e.symm; omega) (fun e => by have := hbase hB e.symm; omega)).grown hgs (by simp; exact Ne.symm h.ne) (by simp; exact h.neh)
  · obtain ⟨old, ho⟩ := h.c1
    exact ⟨old, (hc 1 (by omega)).trans ho⟩
  · intro j hj
    rw [hc j (by unfold isNum at hj; omega)]
    exact h.num j hj
  · obtain ⟨old, ho⟩ := h.c25
    exact ⟨old, (hc 25 (by omega)).trans ho⟩
  · intro j
    rw [World.frozen?_setCell, World.frozen?_of_block (w := w) (a := ⟨q, j, none⟩) (hk q b1)]
    exact h.free j
  · refine ⟨B, V, b1, b2, b3, by have := hgs.size; omega, h26, ?_, ?_, fun _ => ?_⟩
    · have := ho.kept hgs (.inr (by rw [hVo]; simp; omega))
      rw [← List.map_append] at this
      rw [List.length_append, hm]
      exact this
    · intro h1 h3
      have : c.st ≤ 3 := h3
      omega
    · obtain ⟨t, S, m, L, w0, x1, x2, x3, x4, x5, x6⟩ := b8 hst
      exact ⟨t, S, m, L, w0, (hc 25 (by omega)).trans x1, x2, x3, x4, x5, fun k k1 k2 => (hk2 k (by omega) (by omega)).trans (x6 k k1 k2)⟩
  · rw [World.cell?_of_block (w := w) (a := ⟨1, 0, none⟩) (hk2 1 (by omega) (by omega))]
    exact h.g0
  · intro k hk3
    rw [World.cell?_of_block (w := w) (a := ⟨2, k, none⟩) (hk2 2 (by omega) (by omega))]
    exact h.g1 k hk3
  · refine ⟨hgs.os.trans (hg.os.trans hb.os), hgs.tape.trans (hg.tape.trans hb.tape), hgs.output.trans (hg.output.trans hb.output), by have := hgs.size; omega, ?_, (fun o ho => hc o (by omega)), ?_⟩
    · intro k k1 k2 k3 k4
      exact (hgs.block k (by omega) (by simpa using k2)).trans ((hg.block k (by omega) (fun e => k4 v b5 e.symm)).trans (hb.block k k1))
    · intro v' k h1 h2
      rw [h26] at h1
      cases h1
      rw [hVo] at h2
      cases h2
      rcases hat with e | e
      · exact .inr ⟨v, b5, e⟩
      · exact .inl (by omega)
theorem Blk.news {w : World} {g : Nat} {zs : List Int} (h : Blk w g zs) (hb : zs.length ≤ maxLen) : ∀ j u, (zs.map (Value.int .i64))[j]? = some u → w.cell? ((⟨g, 0, none⟩ : Addr).add j) = some u := by
  have hl : (zs.map (Value.int .i64)).length = zs.length * 1 := by simp
  have : w.ownsRow 0 2 1 (.slice (some ⟨g, 0, none⟩) zs.length zs.length) zs.length (zs.map (Value.int .i64)) := ⟨hl, .inr ⟨g, zs.length, _, rfl, Nat.zero_le _, h, Nat.le_refl _, hb, by simp, List.take_of_length_le (by simp)⟩⟩
  exact this.cells rfl
end Go.Proofs.YtbddkkfakkedaaaGreatDoor
namespace Go.Proofs.YtbddkkfakkedaaaGreatDoor
open Go.RowKit
attribute [local go_sem ↓] Go.wp_at_zero Go.wp_at_succ
set_option linter.unusedVariables false

theorem row1_new (W : World) (x : Int) (T : TypeId) : Row64 (W.alloc (.cells #[.int .i64 x] T)) (some ⟨W.heap.size, 0, none⟩) [x] := by
  intro i hi
  have : i = 0 := by simp at hi; omega
  subst this
  exact ⟨W.heap.size, 0, rfl, by simp [go_sem]⟩
set_option maxRecDepth 100000 in
set_option maxHeartbeats 1600000 in
theorem add_any (q p hB : Nat) (zs : List Int) (rdy : Value) (c : LC) (x : Int) (t : Nat) (w : World) (hM : LMem q p hB zs rdy w c) (hI : LInv c) (ht1 : 1 ≤ t) (ht2 : t ≤ 138) (r : LC ⊕ (Int × LC)) (hr : addS c x t = r) :
    Calls Tryz.prog 186 #[.pointer (some ⟨q, 0, none⟩), .int .i64 x, .int .i64 (t : Nat)] w fun e w' => LPost q p hB zs rdy r e w w' := by
  obtain ⟨i0, hi, hz0, hz1, hz2⟩ := info_parts Tryz.info_i64
  have hqw := hM.lt
  obtain ⟨lo, cap, c26⟩ := hM.slice
  obtain ⟨l, hl⟩ : ∃ l : Nat, c.f 2 = (l : Int) := ⟨(c.f 2).toNat, by have := hI.l1; omega⟩
  obtain ⟨d, hd⟩ : ∃ d : Nat, c.f 3 = (d : Int) := ⟨(c.f 3).toNat, by have := hI.d1; omega⟩
  have c2 := hM.num 2 (by unfold isNum; omega)
  have c3 := hM.num 3 (by unfold isNum; omega)
  rw [hl] at c2
  rw [hd] at c3
  have k1 := hI.l1
  have k2 := hI.l2
  have k3 := hI.d1
  have k4 := hI.d2
  have k5 := hI.n
  rw [hl] at k1 k2 k5
  rw [hd] at k3 k4 k5
  unfold addS at hr
  rw [hl, hd, Int.toNat_natCast] at hr
  have HM := hideM hM
  have HI := hideM hI
  have HR := hideM hr
  have HL := hideM hl
  clear hM hI hr hl hd
  obtain ⟨N, hN⟩ : ∃ N, c.lens.length = N := ⟨_, rfl⟩
  rw [hN] at c26 k5 HR
  have HN := hideM hN
  clear hN
  go_enter Tryz.func186, Tryz.ntmps186
  go_upto_region 1 with fail
  go_region
  have hM1 := HM.out.below ((Below.refl _ _).drew : Below w.heap.size w w.drew)
  have hT1 : Trod q p w w.drew := Trod.below hqw ((Below.refl _ _).drew)
  have d26 : w.drew.cell? ⟨q, 26, none⟩ = some (.slice lo N cap) := c26
  have HM1 := hideM hM1
  have HT1 := hideM hT1
  clear HM hM1 hT1 c26
  by_cases hgt : (t : Int) > (l : Int) + (d : Int) - (N : Int)
  · have hgb : decide ((t : Int) > (l : Int) + (d : Int) - (N : Int)) = true := decide_eq_true hgt
    have HF : Hid (LPost q p hB zs rdy r (.returned (.tuple #[.nilFunc, flt 3])) w w.drew) := by
      show LPost _ _ _ _ _ _ _ _ _
      rw [← HR.out, if_pos hgt]
      exact LPost.no HM1.out HT1.out
    go_wp2_with fail
    exact bodyPost_ret (v := .tuple #[.nilFunc, flt 3]) (by simp [results, Tryz.results186, go_sem, flt]) rfl HF.out
  · have hgb : decide ((t : Int) > (l : Int) + (d : Int) - (N : Int)) = false := decide_eq_false hgt
    go_upto_region 4 with fail
    generalize w.drew = w1 at *
    obtain ⟨B, v, b1, b2, b3, b4, b5, b6, _, b8⟩ := HM1.out.own
    have hv : v = .slice lo N cap := Option.some.inj (b5.symm.trans d26)
    subst hv
    have hq1 := HM1.out.lt
    have HG : Hid (∀ (w5 w6 : World) (g cap' : Nat), Below w1.heap.size w1 w5 → w5.grownBy w6 (Value.slice lo N cap).ownBlock → w6.ownsRow B 2 1 (.slice (some ⟨g, 0, none⟩) (N + t) cap') (N + t) (c.lens.map (Value.int .i64) ++ (List.replicate t x).map (Value.int .i64)) → ((Value.slice lo N cap).ownBlock = some g ∨ g = w5.heap.size) →
        LMem q p hB zs rdy (w6.setCell ⟨q, 26, none⟩ (.slice (some ⟨g, 0, none⟩) (N + t) cap')) { c with lens := c.lens ++ List.replicate t x } ∧ Trod q p w1 (w6.setCell ⟨q, 26, none⟩ (.slice (some ⟨g, 0, none⟩) (N + t) cap'))) := by
      intro w5 w6 g cap' hb hg ho hat
      have hn := HN.out
      rw [← hn] at hg ho hat b5 b6 ⊢
      exact HM1.out.grow (w5 := w5) (w6 := w6) (g := g) (cap' := cap') (m := t) (new := List.replicate t x) b1 b2 b3 b4 b5 b6 b8 HI.out.st hb (List.length_replicate) hg ho hat
    have HBS := hideM (own_base b6)
    rw [HN.out] at b6
    have HOW := hideM (fun (W : World) (hb : Below w1.heap.size w1 W) => ownsRow_up b6 hb)
    have hsz : (w1.alloc (.cells #[.int .i64 x] 2)).drew.heap.size = w1.heap.size + 1 := by
      show (w1.alloc (.cells #[.int .i64 x] 2)).heap.size = _
      simp
    have HRP : Hid (Calls Tryz.prog 81 #[.slice (some ⟨w1.heap.size, 0, none⟩) 1 1, .int .i64 (t : Nat)] (w1.alloc (.cells #[.int .i64 x] 2)).drew fun e w' => e = .returned (.slice (some ⟨w1.heap.size + 1, 0, none⟩) t t) ∧ Blk w' (w1.heap.size + 1) (List.replicate t x) ∧ Below w1.heap.size w1 w') := by
      refine Calls.mono (repeat_one w1.heap.size 0 1 t x (w1.alloc (.cells #[.int .i64 x] 2)).drew ((row1_new w1 x 2).below ((Below.refl _ _).drew)) ht1 (by omega)) ?_
      rintro e w' ⟨rfl, h1, h2⟩
      rw [hsz] at h1 h2 ⊢
      exact ⟨rfl, h1, (((Below.refl _ _).alloc (Nat.le_refl _) _).drew).trans (h2.mono (by omega))⟩
    clear hsz
    have hg5 : ∃ g5, w1.heap.size + 1 = g5 := ⟨_, rfl⟩
    obtain ⟨g5, hg5⟩ := hg5
    rw [hg5] at HRP
    have HG5 := hideM hg5
    clear hg5
    have f26 := HM1.out.free 26
    have HB1 := hideM b1
    have HB4 := hideM b4
    have hlen : ((List.replicate t x).map (Value.int .i64)).length = t * 1 := by simp
    have HON : Hid (∀ u ∈ (List.replicate t x).map (Value.int .i64), u.oneCell' = true) := by
      intro u hu
      simp at hu
      obtain ⟨_, rfl⟩ := hu
      rfl
    have H63 : Hid (N + t ≤ maxLen) := by unfold maxLen; show _ ≤ _; omega
    have H64 : Hid ((N + t) * 8 ≤ 140737488355328) := by show _ ≤ _; omega
    have HT0 : Hid (0 < t) := by show _ < _; omega
    have HRL : Hid ((List.replicate t x).length ≤ maxLen) := by show _ ≤ _; rw [List.length_replicate]; unfold maxLen; omega
    have HLN := hideM hlen
    clear b1 b2 b3 b4 b5 b6 b8 c2 c3 hlen
    generalize hXS : c.lens.map (Value.int .i64) = XS at *
    go_cut [29] from 30 to 52 (fun v wx => v = .pointer (some ⟨q, 0, none⟩) ∧ Hid (LMem q p hB zs rdy wx { c with lens := c.lens ++ List.replicate t x }) ∧ Hid (Trod q p w1 wx))
    case first =>
      go_region_law (first
        | (go_simp; go_at_call 81; refine HRP.out.mono ?_; rintro e w5 ⟨rfl, hblk, hb6⟩; have k26 := (hb6.cell (p := ⟨q, 26, none⟩) hq1).trans d26; have l26 := (hb6.frozen (p := ⟨q, 26, none⟩) hq1).trans f26; have HOW5 := hideM (HOW.out w5 hb6); have HNW5 := hideM (hblk.news HRL.out); have HBH5 : Hid (B ≤ w5.heap.size) := Nat.le_trans HB4.out hb6.size; have hs5 := hb6.size; have HB6 := hideM hb6; clear hb6 hblk)
        | (refine step_append_lies _ rfl (.tmp 33) (.tmp 37) 67 rfl B 2 i0 (.int .i64 0) 1 8 Tryz.underlying67 hi hz0 hz1 hz2 rfl (by decide) (.slice lo N cap) N XS (by simp [Act.eval]) HOW5.out ⟨g5, 0, none⟩ t t ((List.replicate t x).map (Value.int .i64)) (by simp [Act.eval]) HLN.out HNW5.out HON.out HT0.out H63.out H64.out HBH5.out _ rfl ?_; intro g cap' w6 hown hgrow hat hlt; have m26 : w6.cell? ⟨q, 26, none⟩ = some (.slice lo N cap) := hgrow.cell k26 (fun e => by have := HBS.out q e.symm; have := HB1.out; omega); have n26 : w6.frozen? ⟨q, 26, none⟩ = false := (World.frozen?_of_block (w := w5) (a := ⟨q, 26, none⟩) (hgrow.block q (by omega) (fun e => by have := HBS.out q e.symm; have := HB1.out; omega))).trans l26))
      all_goals
        have hGR := HG.out w5 w6 g cap' HB6.out hgrow hown hat
        have HA := hideM hGR.1
        have HBB := hideM hGR.2
        clear hGR hown hgrow hat m26 n26 k26 l26 d26
        go_wp2_with fail
        go_meet
        exact ⟨rfl, HA, HBB⟩
    case rest =>
      obtain ⟨rfl, HA, HBB⟩ := hcut
      clear HG HBS HOW HRP f26 HB1 HB4 HON H63 H64 HT0 HRL HLN d26
      have HT2 := hideM (HT1.out.trans HBB.out)
      have hqc := HA.out.lt
      by_cases hlt : (t : Int) < (l : Int) + (d : Int) - (N : Int)
      · have hlb : decide ((t : Int) < (l : Int) + (d : Int) - (N : Int)) = true := decide_eq_true hlt
        have HF : Hid (LPost q p hB zs rdy r (.returned (.tuple #[.func (Fn.func 182) #[.pointer (some ⟨q, 0, none⟩)] #[], .nilIface])) w wc) := by
          show LPost _ _ _ _ _ _ _ _ _
          rw [← HR.out, if_neg hgt, if_pos hlt]
          exact LPost.ok rfl (HA.out.at 4 (fun _ h => by omega) (fun _ => HI.out.st)) HT2.out
        clear HR
        go_wp2_with fail
        exact bodyPost_ret (v := .tuple #[.func (Fn.func 182) #[.pointer (some ⟨q, 0, none⟩)] #[], .nilIface]) (by simp [results, Tryz.results186, go_sem]) rfl HF.out
      · have hlb : decide ((t : Int) < (l : Int) + (d : Int) - (N : Int)) = false := decide_eq_false hlt
        have hlen : (c.lens ++ List.replicate t x).length = N + t := by rw [List.length_append, HN.out, List.length_replicate]
        obtain ⟨g, cap2, e26, hcap, hrow⟩ := HA.out.last (by show 0 < (c.lens ++ List.replicate t x).length; omega)
        have e2 := HA.out.num 2 (by unfold isNum; omega)
        have e28 := HA.out.c28
        have hdr : Below wc.heap.size wc wc.drew := (Below.refl _ _).drew
        have HCK := hideM (checkLens_any q g cap2 l (c.lens ++ List.replicate t x) wc.drew e26 (by show wc.cell? _ = _; rw [e2]; show some (Value.int .i64 (c.f 2)) = _; rw [HL.out]) (by omega) hcap (by omega) (hrow.below hdr) (by omega))
        have HR2 : Hid ((if chk ((c.lens ++ List.replicate t x).take l) ((c.lens ++ List.replicate t x).drop l) then Sum.inl { c with st := 6, lens := c.lens ++ List.replicate t x } else Sum.inr ((3 : Int), { c with lens := c.lens ++ List.replicate t x })) = r) := by
          show _ = _
          rw [← HR.out, if_neg hgt, if_neg hlt]
        clear HR e26 e2 hcap hrow hlen HT1 HBB HM1
        by_cases hck : chk ((c.lens ++ List.replicate t x).take l) ((c.lens ++ List.replicate t x).drop l)
        · have HC1 : Hid (Calls Tryz.prog 191 #[.pointer (some ⟨q, 0, none⟩)] wc.drew fun e w' => e = .returned .nilIface ∧ Below wc.heap.size wc w') := Calls.mono HCK.out (fun e w' h => ⟨h.1.1 hck, hdr.trans h.2⟩)
          have HX : Hid (r = Sum.inl { c with st := 6, lens := c.lens ++ List.replicate t x }) := by
            show _ = _
            rw [← HR2.out, if_pos hck]
          clear HCK HR2 hck hdr
          go_upto_region 7 with fail
          go_region_held3 (fun w' => w'.cell? ⟨q, 28, none⟩ = some rdy)
            (first | (with_reducible assumption) | (go_keep; done))
            ((go_at_call 191; refine Calls.mono HC1.out ?_; rintro e w8 ⟨rfl, hb8⟩; have k28 := (hb8.cell (p := ⟨q, 28, none⟩) hqc).trans e28))
          have HF : Hid (LPost q p hB zs rdy r (.returned (.tuple #[rdy, .nilIface])) w w8) := by
            show LPost _ _ _ _ _ _ _ _ _
            rw [HX.out]
            exact LPost.ok (show rdy = lnow q rdy 6 from (if_neg (by decide)).symm) ((HA.out.below hb8).at 6 (fun _ h => by omega) (fun _ => HI.out.st)) (HT2.out.trans (Trod.below hqc hb8))
          clear hb8 HX HC1
          go_wp2_with fail
          exact bodyPost_ret (v := .tuple #[rdy, .nilIface]) (by simp [results, Tryz.results186, go_sem]) rfl HF.out
        · have HC1 : Hid (Calls Tryz.prog 191 #[.pointer (some ⟨q, 0, none⟩)] wc.drew fun e w' => e = .returned (flt 3) ∧ Below wc.heap.size wc w') := Calls.mono HCK.out (fun e w' h => ⟨h.1.2 hck, hdr.trans h.2⟩)
          have HX : Hid (r = Sum.inr ((3 : Int), { c with lens := c.lens ++ List.replicate t x })) := by
            show _ = _
            rw [← HR2.out, if_neg hck]
          obtain ⟨V2, hV2⟩ : ∃ V2, flt 3 = V2 := ⟨_, rfl⟩
          rw [hV2] at HC1
          have HV2 := hideM hV2
          clear HCK HR2 hck hdr hV2
          go_upto_region 7 with fail
          go_region_held3 (fun w' => w'.cell? ⟨q, 28, none⟩ = some rdy)
            (first | (with_reducible assumption) | (go_keep; done))
            ((go_at_call 191; refine Calls.mono HC1.out ?_; rintro e w8 ⟨rfl, hb8⟩; have k28 := (hb8.cell (p := ⟨q, 28, none⟩) hqc).trans e28))
          have HF : Hid (LPost q p hB zs rdy r (.returned (.tuple #[rdy, V2])) w w8) := by
            show LPost _ _ _ _ _ _ _ _ _
            rw [HX.out, ← HV2.out]
            exact LPost.no (HA.out.below hb8) (HT2.out.trans (Trod.below hqc hb8))
          clear hb8 HX HC1
          go_wp2_with fail
          exact bodyPost_ret (v := .tuple #[rdy, V2]) (by simp [results, Tryz.results186, go_sem]) rfl HF.out
theorem add_ok (q p hB : Nat) (zs : List Int) (rdy : Value) : AddOK q p hB zs rdy := fun c x t w hM hI h1 h2 => add_any q p hB zs rdy c x t w hM hI h1 h2 _ rfl
end Go.Proofs.YtbddkkfakkedaaaGreatDoor
