import Derived.Test.YtlfabilmilkboaaGreatDoorMBU
import Derived.Test.YtlfabilmilkboaaGreatDoorMBV
namespace Go.Proofs.YtlfabilmilkboaaGreatDoor
open Go.RowKit
attribute [local go_sem ↓] Go.wp_at_zero Go.wp_at_succ
set_option linter.unusedVariables false

theorem CodesIn.told {z Q n : Nat} {wr w' : World} {co : Option Addr} {F : Nat → Nat × Nat} {aa : Option Addr} (h : CodesIn (z + 4) Q wr co n F) (hg : wr.grownBy w' (blk aa)) (hf : ∀ g, blk aa = some g → g < z ∨ Q ≤ g) (v : Value) (i cl : Int) (tv : Value) (D s : Int) : CodesIn (z + 4) Q (wT (wR w' z v i cl) (z + 1) tv D s) co n F :=
  ((h.grown hg (fun k e => by have := hf k e; omega)).grown (wR_grown w' z v i cl) (fun k e => by simp at e; omega)).grown (wT_grown _ _ _ _ _) (fun k e => by simp at e; omega)
/-- How far the reading of symbols is from its end. -/
def symMu (Z i : Nat) (c : Int) : Nat := if c = 0 then 1 + (8 * Z - i) else 0
theorem symMu_off (Z i : Nat) {c : Int} (h : c ≠ 0) : symMu Z i c = 0 := if_neg h
theorem symMu_lt {Z i i' : Nat} {c' : Int} (h : c' = 0 → i < i') (hi : c' = 0 → i' ≤ 8 * Z) : symMu Z i' c' < symMu Z i 0 := by
  unfold symMu
  rw [if_pos rfl]
  split
  · rename_i e
    have := h e
    have := hi e
    omega
  · omega
theorem tlP_fst (D : Nat) (r : RR) (all data : List Int) : (tlP D r all data).1.1 = r.1 := by
  unfold tlP
  split
  · split <;> rfl
  · rfl
theorem sy_mono (zs : List Int) (r : RR) (tb : List Int) : r.1 ≤ (sy zs r tb).1.1 := by
  unfold sy
  split
  · dsimp only; omega
  · exact Nat.le_refl _
theorem CodesIn.wide {lo hi hi' n : Nat} {w : World} {co : Option Addr} {F : Nat → Nat × Nat} (h : CodesIn lo hi w co n F) (hh : hi ≤ hi') : CodesIn lo hi' w co n F := fun h0 => by
  obtain ⟨g, h1, h2, h3, h4⟩ := h h0
  exact ⟨g, h1, h2, by omega, h4⟩
set_option maxRecDepth 100000 in
set_option maxHeartbeats 25600000 in
theorem l5Symbols_any (ao : Option Addr) (Z cap : Nat) (zs : List Int) (hZ : zs.length = Z) (i : Nat) (a : Option Addr) (c : Nat) (all : List Int) (D s : Nat) (ls ds : List Int) (b : Bool) (k : Int) (cf : IC) (lo : Option Addr) (lc : Nat) (eo : Option Addr) (ec : Nat) (B : Nat) (w : World) (hr : Row w ao zs) (hrb : ∀ ad, ao = some ad → ad.block < B) (hz : Octets zs) (hzl : zs.length ≤ 65536) (ho : OwnsB 5 B w a c all) (hB : B ≤ w.heap.size) (hs : s ≤ 32768) (hDs : D ≤ 32768) (hl1 : Row64 w lo ls) (hl2 : Row64 w eo ds) (hk1 : okC ls = true) (hk2 : okC ds = true) (hn1 : ls.length ≤ 320) (hn2 : ds.length ≤ 320) (hA : IAt s zs D k cf 12 (InUse ls ds b) (i, 0) all) :
    Calls Tryz.prog 26 #[.agg #[.slice ao Z cap, .int .i64 (i : Nat), .int .i64 0], .agg #[.slice a all.length c, .int .i64 (D : Nat), .int .i64 (s : Nat), .int .i64 100000], .slice lo ls.length lc, .slice eo ds.length ec] w fun e w' => ToldPost (.slice ao Z cap) (D : Nat) (s : Nat) B a (fun r' all' => IAt s zs D k cf 8 (fun c => c.last = b) r' all' ∧ i ≤ r'.1) e w w' := by
  have hne : ∀ ad, ao = some ad → some ad.block ≠ blk a := fun ad e h => by have := OwnsB.based ho ad.block h.symm; have := hrb ad e; omega
  have HROW : Hid (∀ W, w.grownBy W (blk a) → Row W ao zs) := fun W hg => hr.grown hg hne
  have HSY : Hid (∀ W i cl co cc, w.grownBy W (blk a) → i ≤ 8 * Z → Reads W co ls.length (code ls) → Calls Tryz.prog 38 #[.agg #[.slice ao Z cap, .int .i64 (i : Nat), .int .i64 cl], .slice co ls.length cc] W fun e w' => e = .returned (.tuple #[.agg #[.slice ao Z cap, .int .i64 ((sy zs (i, cl) ls).1.1 : Nat), .int .i64 (sy zs (i, cl) ls).1.2], .int .i64 ((sy zs (i, cl) ls).2 : Nat)]) ∧ Below W.heap.size W w') := fun W i cl co cc hW hi hcd => by subst hZ; exact l5Sym_any ao cap zs i cl ls co ls.length cc W (HROW.out W hW) hz hzl hi (fun _ => ⟨hk1, rfl, hcd⟩)
  have HTL : Hid (∀ W i a c all g x, OwnsB 5 B W a c all → B ≤ W.heap.size → Row W (some ⟨g, 0, none⟩) [x] → D ≤ all.length → all.length ≤ 200000 → Calls Tryz.prog 34 #[.agg #[.slice ao Z cap, .int .i64 (i : Nat), .int .i64 0], .agg #[.slice a all.length c, .int .i64 (D : Nat), .int .i64 (s : Nat), .int .i64 100000], .slice (some ⟨g, 0, none⟩) 1 1] W fun e w' => ToldPost (.slice ao Z cap) (D : Nat) (s : Nat) B a (fun r' all' => (r', all') = tlP D (i, 0) all [x]) e W w') := fun W i a c all g x h1 h2 h3 h5 h6 => l5Tell_any ao Z cap i 0 a c all D s (some ⟨g, 0, none⟩) 1 [x] B W h1 h2 h3 (fun e => by cases e) h5 h6 (by simp)
  have HCY : Hid (∀ W (aw : Option Addr) i a1 c all S co cc, aw = a → w.grownBy W (blk aw) → OwnsB 5 B W a1 c all → B ≤ W.heap.size → 256 < S → S ≤ 285 → Reads W co ds.length (code ds) → IAt s zs D k cf 13 (fun c => InUse ls ds b c ∧ c.base = (lenR S).1 ∧ c.extra = (lenR S).2) (i, 0) all → Calls Tryz.prog 41 #[.agg #[.slice ao Z cap, .int .i64 (i : Nat), .int .i64 0], .agg #[.slice a1 all.length c, .int .i64 (D : Nat), .int .i64 (s : Nat), .int .i64 100000], .int .i64 (S : Nat), .slice co ds.length cc] W fun e w' => ToldPost (.slice ao Z cap) (D : Nat) (s : Nat) B a1 (fun r' all' => IAt s zs D k cf 12 (InUse ls ds b) r' all' ∧ i ≤ r'.1) e W w') := fun W aw i a1 c all S co cc e0 hW h1 h2 h3 h4 h5 h6 => l5Copy_any ao Z cap zs hZ i a1 c all D s S ls ds b k cf co ds.length cc B W (HROW.out W (e0 ▸ hW)) hz hzl h1 h2 h3 h4 hs hDs ⟨hk2, rfl, h5⟩ h6
  have HC1 := hideM (fun W (hW : Below w.heap.size w W) => scodes_any lo lc ls W (hl1.below hW) (by omega))
  have HC2 := hideM (fun W (hW : Below w.heap.size w W) => scodes_any eo ec ds W (hl2.below hW) (by omega))
  have hnc1 : nC ls = ls.length := by unfold nC; rw [if_pos hk1]
  have hnc2 : nC ds = ds.length := by unfold nC; rw [if_pos hk2]
  have HNC1 := hideM hnc1
  have HNC2 := hideM hnc2
  have hiz : i ≤ 8 * Z := by have := hA.le; dsimp only at this; omega
  have HDS := hideM hDs
  have S := hideM (si_new w a B (.slice ao Z cap) (i : Nat) 0 c all (D : Nat) (s : Nat) 33 35 ho)
  have L := hideM (w4_below w (.slice ao Z cap) (i : Nat) 0 (.slice a all.length c) (D : Nat) (s : Nat) 33 35)
  have HZ := w4_size w (.slice ao Z cap) (i : Nat) 0 (.slice a all.length c) (D : Nat) (s : Nat) 33 35
  have A0 := hideM hA
  have HZL := hideM hZ
  have Hzl := hideM hzl
  have HBw := hideM hB
  clear hr hrb hz ho hA hZ hzl hDs hl1 hl2 hk1 hk2 hne hnc1 hnc2 HROW hB hn1 hn2
  go_enter Tryz.func26, Tryz.ntmps26
  go_upto_region 1 with fail
  rw [w4_eq]
  generalize w4 w (.slice ao Z cap) (i : Nat) 0 (.slice a all.length c) (D : Nat) (s : Nat) 33 35 = W at *
  go_wp2_with fail
  refine Calls.mono (HC1.out _ L.out) ?_
  rintro e w1 ⟨⟨co1, cc1, rfl, hrh1⟩, hb⟩
  rw [HNC1.out] at hrh1 ⊢
  have C1 := hideM (RowH.codesIn (lo := w.heap.size + 4) hrh1 (by omega) (fun g hc _ => hc.lt))
  have S1 := hideM (S.out.below hb)
  have L1 := hideM (L.out.trans (hb.mono L.out.size))
  have hz1 : w.heap.size + 4 ≤ w1.heap.size := by have := hb.size; omega
  clear hrh1 hb S L HC1 HZ
  go_wp2_with fail
  refine Calls.mono (HC2.out _ L1.out) ?_
  rintro e w2 ⟨⟨co2, cc2, rfl, hrh2⟩, hb⟩
  rw [HNC2.out] at hrh2 ⊢
  have hQ12 : w1.heap.size ≤ w2.heap.size := hb.size
  have C2 := hideM (RowH.codesIn (lo := w.heap.size + 4) hrh2 (by omega) (fun g hc _ => hc.lt))
  have C1' := hideM (CodesIn.wide (C1.out.below hb) hQ12)
  have S := hideM (S1.out.below hb)
  clear hrh2 hb S1 L1 HC2 C1
  have C1 := C1'
  clear C1'
  obtain ⟨Q, hQe⟩ : ∃ Q, w2.heap.size = Q := ⟨_, rfl⟩
  have hQw : Q ≤ w2.heap.size := by omega
  have hQz : w.heap.size + 4 ≤ Q := by omega
  rw [hQe] at C1 C2
  clear hQ12 hz1 hQe
  have HF0 : Hid (∀ g, blk a = some g → blk a = some g ∨ Q ≤ g) := fun g e => .inl e
  have A1 : Hid (IAt s zs D k cf 12 (InUse ls ds b) (i, 0) all ∧ i ≤ i) := ⟨A0.out, Nat.le_refl _⟩
  clear A0
  go_upto_region 3 with fail
  go_loopg [12] (symMu Z i 0) (fun n _ wr => ∃ (i' : Nat) (c' : Int) (aa : Option Addr) (ca : Nat) (al : List Int), Hid (symMu Z i' c' = n) ∧ i' ≤ 8 * Z ∧ Hid (SI w a B wr (.slice ao Z cap) ((i' : Nat) : Int) c' aa ca al (D : Nat) (s : Nat)) ∧ Hid (CodesIn (w.heap.size + 4) Q wr co1 ls.length (code ls)) ∧ Hid (CodesIn (w.heap.size + 4) Q wr co2 ds.length (code ds)) ∧ Q ≤ wr.heap.size ∧ Hid (∀ g, blk aa = some g → blk a = some g ∨ Q ≤ g) ∧ Hid (IAt s zs D k cf 12 (InUse ls ds b) (i', c') al ∧ i ≤ i'))
  case atStart => exact ⟨i, 0, a, c, all, rfl, hiz, S, C1, C2, hQw, HF0, A1⟩
  case round =>
    clear S C1 C2 hQw HF0 A1 hiz
    obtain ⟨i', c', aa, ca, al, HMU, hi', S, C1, C2, hQw, HF, A⟩ := hrel
    by_cases hc : c' = 0
    · subst hc
      obtain ⟨i1, c1, x, hY⟩ : ∃ (xi : Nat) (xc : Int) (xF : Nat), sy zs (i', 0) ls = ((xi, xc), xF) := ⟨_, _, _, rfl⟩
      obtain ⟨hi1z, hno, hyes⟩ := at_sym Hzl.out A.out.1 hY
      have hi1 : i1 ≤ 8 * Z := by rw [← HZL.out]; exact hi1z
      have hln := A.out.1.len
      have HLN := hideM hln
      have HSM : Hid (i' ≤ i1) := by have := sy_mono zs (i', 0) ls; rw [hY] at this; exact this
      have HY1 := hideM hY
      have HNO := hideM hno
      have HYES := hideM hyes
      have HII := hideM A.out.2
      clear hY hno hyes hi1z hln A
      obtain ⟨⟨b0, b1, b2, bf⟩, t0, t1, t2, t3, ⟨x0, x1, x2, xf⟩, y0, y1, y2, y3, tf, yf⟩ := S.out.sm
      have zz := S.out.sm.lt
      clear bf t0 t1 t2 t3 x0 x1 x2 xf y0 y1 y2 y3 tf yf
      go_upto_region 5 with fail
      clear b0 b1 b2 zz
      obtain ⟨⟨b0, b1, b2, bf⟩, t0, t1, t2, t3, ⟨x0, x1, x2, xf⟩, y0, y1, y2, y3, tf, yf⟩ := S.out.sm
      have zz := S.out.sm.lt
      clear bf t0 t1 t2 t3 x0 x1 x2 xf y0 y1 y2 y3 tf yf
      go_wp2_with fail
      clear b0 b1 b2 zz
      refine Calls.mono (HSY.out _ i' 0 co1 cc1 S.out.gr hi' C1.out.reads) ?_
      rintro e w1 ⟨rfl, hb⟩
      rw [HY1.out]
      dsimp only
      have S' := hideM (S.out.below hb)
      have C1' := hideM (C1.out.below hb)
      have C2' := hideM (C2.out.below hb)
      have hQ1 : Q ≤ w1.heap.size := Nat.le_trans hQw hb.size
      clear hb S C1 C2 hQw
      have S := hideM (S'.out.setR (.slice ao Z cap) ((i1 : Nat) : Int) c1)
      have C1 := hideM (C1'.out.grown (wR_grown w1 w.heap.size (.slice ao Z cap) ((i1 : Nat) : Int) c1) (fun k e => by simp at e; omega))
      have C2 := hideM (C2'.out.grown (wR_grown w1 w.heap.size (.slice ao Z cap) ((i1 : Nat) : Int) c1) (fun k e => by simp at e; omega))
      have hQw : Q ≤ (wR w1 w.heap.size (.slice ao Z cap) ((i1 : Nat) : Int) c1).heap.size := Nat.le_trans hQ1 (wR_grown w1 w.heap.size (.slice ao Z cap) ((i1 : Nat) : Int) c1).size
      unfold wR at S C1 C2 hQw
      obtain ⟨⟨b0, b1, b2, bf⟩, t0, t1, t2, t3, ⟨x0, x1, x2, xf⟩, y0, y1, y2, y3, tf, yf⟩ := S'.out.sm
      have zz := S'.out.sm.lt
      have bf0 := bf 0
      have bf1 := bf 1
      have bf2 := bf 2
      clear bf t0 t1 t2 t3 x0 x1 x2 xf y0 y1 y2 y3 tf yf
      go_upto_region 6 with fail
      clear b0 b1 b2 bf0 bf1 bf2 zz S' C1' C2' hQ1
      generalize ((w1.setCell ⟨w.heap.size, 0, none⟩ (.slice ao Z cap)).setCell ⟨w.heap.size, 1, none⟩ (.int .i64 ((i1 : Nat) : Int))).setCell ⟨w.heap.size, 2, none⟩ (.int .i64 c1) = W at *
      by_cases hc1 : c1 = 0
      · subst hc1
        obtain ⟨hlt, hSl, h256, hL, hG, hM⟩ := HYES.out rfl
        by_cases hx6 : x = 256
        · subst hx6
          have HFIN : Hid (IAt s zs D k cf 8 (fun c => c.last = b) (i1, 0) al ∧ i ≤ i1) := ⟨h256 rfl, by have := HII.out; omega⟩
          clear h256 hL hG hM HYES HNO
          obtain ⟨⟨b0, b1, b2, bf⟩, t0, t1, t2, t3, ⟨x0, x1, x2, xf⟩, y0, y1, y2, y3, tf, yf⟩ := S.out.sm
          have zz := S.out.sm.lt
          clear bf t0 t1 t2 t3 x0 x1 x2 xf y0 y1 y2 y3 tf yf
          go_upto_region 7 with fail
          clear b0 b1 b2 zz
          obtain ⟨⟨b0, b1, b2, bf⟩, t0, t1, t2, t3, ⟨x0, x1, x2, xf⟩, y0, y1, y2, y3, tf, yf⟩ := S.out.sm
          have zz := S.out.sm.lt
          have xf0 := xf 0
          have xf1 := xf 1
          have xf2 := xf 2
          have yf0 := yf 0
          have yf1 := yf 1
          have yf2 := yf 2
          have yf3 := yf 3
          clear bf xf tf yf
          have DN := hideM (fun W hW => S.out.post (Rel := fun r' all' => IAt s zs D k cf 8 (fun c => c.last = b) r' all' ∧ i ≤ r'.1) HFIN.out W hW)
          clear S
          go_region
          go_wp2_with fail
          have DN1 := DN.out _ (.inl rfl)
          unfold wT wR at DN1
          obtain ⟨⟨k0, k1, k2, k3, k4, k5, k6⟩, P1, P2⟩ := DN1
          exact bodyPost_ret (v := .tuple #[.agg #[.slice ao Z cap, .int .i64 ((i1 : Nat) : Int), .int .i64 0], .agg #[.slice aa (List.length al) ca, .int .i64 (D : Nat), .int .i64 (s : Nat), .int .i64 100000]]) (by simp [results, Tryz.results26, go_sem, k0, k1, k2, k3, k4, k5, k6]) rfl (by first | exact P1 | exact P2)
        · have hx6b : ((x : Int) == 256) = false := by simp; omega
          by_cases hx5 : x < 256
          · have hcv : IntKind.u8.wrap (x : Int) = (x : Int) := by rw [IntKind.wrap_u8]; omega
            have hd5 : decide ((x : Int) < 256) = true := decide_eq_true (by omega)
            have HTE := hideM (hL hx5)
            have HRX := hideM (irow_one W (x : Int) 5)
            have hlt2 := hlt
            have HLT := hideM hlt
            clear h256 hL hG hM HYES HNO hx6 hlt hlt2
            have HB2 : B ≤ (W.alloc (.cells #[.int .u8 (x : Int)] 5)).heap.size := by have := S.out.sm.lt; have := HBw.out; simp; omega
            obtain ⟨⟨b0, b1, b2, bf⟩, t0, t1, t2, t3, ⟨x0, x1, x2, xf⟩, y0, y1, y2, y3, tf, yf⟩ := S.out.sm
            have zz := S.out.sm.lt
            clear bf x0 x1 x2 xf y0 y1 y2 y3 tf yf
            have ba : Below W.heap.size W (W.alloc (.cells #[.int .u8 (x : Int)] 5)) := (Below.refl _ _).alloc (Nat.le_refl _) _
            have SB := hideM (S.out.below ba)
            have C1B := hideM (C1.out.below ba)
            have C2B := hideM (C2.out.below ba)
            have hQB : Q ≤ (W.alloc (.cells #[.int .u8 (x : Int)] 5)).heap.size := Nat.le_trans hQw ba.size
            clear ba
            go_wp2_with fail
            clear b0 b1 b2 t0 t1 t2 t3 zz
            refine Calls.mono (HTL.out _ i1 aa ca al _ (x : Int) SB.out.own HB2 HRX.out HLN.out.1 (by have := HLN.out; have := HDS.out; omega)) ?_
            rintro e w3 ⟨ir, cr, ar, car, alr, rfl, hor, hgr, hfr, hrl⟩
            have S3 := hideM (SB.out.told hor hgr hfr (.slice ao Z cap) ((ir : Nat) : Int) cr)
            have SG := hideM (SB.out.sm.grown hgr (fun k e => SB.out.out k e))
            have HFL : ∀ g, blk aa = some g → g < w.heap.size ∨ Q ≤ g := fun g e => by
              rcases HF.out g e with h | h
              · exact .inl (SB.out.low g h)
              · exact .inr h
            have C13 := hideM (C1B.out.told hgr HFL (.slice ao Z cap) ((ir : Nat) : Int) cr (.slice ar alr.length car) (D : Nat) (s : Nat))
            have C23 := hideM (C2B.out.told hgr HFL (.slice ao Z cap) ((ir : Nat) : Int) cr (.slice ar alr.length car) (D : Nat) (s : Nat))
            have HF3 : Hid (∀ g, blk ar = some g → blk a = some g ∨ Q ≤ g) := fun g e => by
              rcases hfr g e with h | h
              · exact HF.out g h
              · exact .inr (Nat.le_trans hQB h)
            have hQ3 : Q ≤ (wT (wR w3 w.heap.size (.slice ao Z cap) ((ir : Nat) : Int) cr) (w.heap.size + 1) (.slice ar alr.length car) (D : Nat) (s : Nat)).heap.size := Nat.le_trans hQB (Nat.le_trans hgr.size (Nat.le_trans (wR_grown _ _ _ _ _).size (wT_grown _ _ _ _ _).size))
            have HRL := hideM hrl
            clear hor hgr hfr hrl S C1 C2 HF HFL hQw
            clear SB C1B C2B hQB
            unfold wT wR at S3 C13 C23 hQ3
            obtain ⟨⟨b0, b1, b2, bf⟩, t0, t1, t2, t3, ⟨_, _, _, _⟩, _, _, _, _, tf, _⟩ := SG.out
            have zz := SG.out.lt
            have bf0 := bf 0
            have bf1 := bf 1
            have bf2 := bf 2
            have tf0 := tf 0
            have tf1 := tf 1
            have tf2 := tf 2
            have tf3 := tf 3
            clear bf tf
            go_wp2_with fail
            clear b0 b1 b2 t0 t1 t2 t3 bf0 bf1 bf2 tf0 tf1 tf2 tf3 zz SG
            generalize ((((((w3.setCell ⟨w.heap.size, 0, none⟩ (.slice ao Z cap)).setCell ⟨w.heap.size, 1, none⟩ (.int .i64 ((ir : Nat) : Int))).setCell ⟨w.heap.size, 2, none⟩ (.int .i64 cr)).setCell ⟨w.heap.size + 1, 0, none⟩ (.slice ar (List.length alr) car)).setCell ⟨w.heap.size + 1, 1, none⟩ (.int .i64 (D : Nat))).setCell ⟨w.heap.size + 1, 2, none⟩ (.int .i64 (s : Nat))).setCell ⟨w.heap.size + 1, 3, none⟩ (.int .i64 100000) = W9 at *
            have hir : ir = i1 := by have := tlP_fst D (i1, 0) al [(x : Int)]; rw [← HRL.out] at this; exact this
            have AN : Hid (IAt s zs D k cf 12 (InUse ls ds b) (ir, cr) alr ∧ i ≤ ir) := ⟨HTE.out ir cr alr HRL.out.symm, by have := HII.out; have := HLT.out; omega⟩
            have MU : Hid (symMu Z ir cr < symMu Z i' 0) := symMu_lt (fun _ => by have := HLT.out; omega) (fun _ => by omega)
            rw [HMU.out] at MU
            have hirz : ir ≤ 8 * Z := by omega
            clear hir HRL HTE
            go_roundg (symMu Z ir cr)
            case measure => exact MU.out
            case rel => exact ⟨ir, cr, ar, car, alr, rfl, hirz, S3, C13, C23, hQ3, HF3, AN⟩
          · have hd5 : decide ((x : Int) < 256) = false := decide_eq_false (by omega)
            by_cases hx8 : 285 < x
            · have hd8 : decide ((x : Int) > 285) = true := decide_eq_true (by omega)
              have AN : Hid (IAt s zs D k cf 12 (InUse ls ds b) (i1, 3) al ∧ i ≤ i1) := ⟨hG hx8, by have := HII.out; omega⟩
              have MU : Hid (symMu Z i1 3 < symMu Z i' 0) := symMu_lt (fun h => by omega) (fun h => by omega)
              rw [HMU.out] at MU
              have HB1 : Hid (bdP (i1, 0) true = (i1, 3)) := bdP_yes i1
              clear h256 hL hG hM HYES HNO hx6
              obtain ⟨⟨b0, b1, b2, bf⟩, t0, t1, t2, t3, ⟨x0, x1, x2, xf⟩, y0, y1, y2, y3, tf, yf⟩ := S.out.sm
              have zz := S.out.sm.lt
              clear bf t0 t1 t2 t3 x0 x1 x2 xf y0 y1 y2 y3 tf yf
              go_wp2_with fail
              clear b0 b1 b2 zz
              refine Calls.mono (l5Bad_any ao Z cap i1 0 true _) ?_
              rintro e w1 ⟨rfl, hb⟩
              rw [HB1.out]
              dsimp only
              have S' := hideM (S.out.below hb)
              have C1' := hideM (C1.out.below hb)
              have C2' := hideM (C2.out.below hb)
              have hQ1 : Q ≤ w1.heap.size := Nat.le_trans hQw hb.size
              clear hb S C1 C2 hQw
              have S := hideM (S'.out.setR (.slice ao Z cap) ((i1 : Nat) : Int) 3)
              have C1 := hideM (C1'.out.grown (wR_grown w1 w.heap.size (.slice ao Z cap) ((i1 : Nat) : Int) 3) (fun k e => by simp at e; omega))
              have C2 := hideM (C2'.out.grown (wR_grown w1 w.heap.size (.slice ao Z cap) ((i1 : Nat) : Int) 3) (fun k e => by simp at e; omega))
              have hQw : Q ≤ (wR w1 w.heap.size (.slice ao Z cap) ((i1 : Nat) : Int) 3).heap.size := Nat.le_trans hQ1 (wR_grown w1 w.heap.size (.slice ao Z cap) ((i1 : Nat) : Int) 3).size
              unfold wR at S C1 C2 hQw
              obtain ⟨⟨b0, b1, b2, bf⟩, t0, t1, t2, t3, ⟨x0, x1, x2, xf⟩, y0, y1, y2, y3, tf, yf⟩ := S'.out.sm
              have zz := S'.out.sm.lt
              have bf0 := bf 0
              have bf1 := bf 1
              have bf2 := bf 2
              clear bf t0 t1 t2 t3 x0 x1 x2 xf y0 y1 y2 y3 tf yf
              go_wp2_with fail
              clear b0 b1 b2 bf0 bf1 bf2 zz S' C1' C2' hQ1
              generalize ((w1.setCell ⟨w.heap.size, 0, none⟩ (.slice ao Z cap)).setCell ⟨w.heap.size, 1, none⟩ (.int .i64 ((i1 : Nat) : Int))).setCell ⟨w.heap.size, 2, none⟩ (.int .i64 3) = W at *
              go_roundg (symMu Z i1 3)
              case measure => exact MU.out
              case rel => exact ⟨i1, 3, aa, ca, al, rfl, hi1, S, C1, C2, hQw, HF, AN⟩
            · have hd8 : decide ((x : Int) > 285) = false := decide_eq_false (by omega)
              have HAM := hideM (hM (by omega) (by omega))
              have hx1 : 256 < x := by omega
              have hx2 : x ≤ 285 := by omega
              have HLT := hideM hlt
              clear h256 hL hG hM HYES HNO hx6 hlt hx5 hx8
              have HB2 : B ≤ W.heap.size := by have := S.out.sm.lt; have := HBw.out; omega
              obtain ⟨⟨b0, b1, b2, bf⟩, t0, t1, t2, t3, ⟨x0, x1, x2, xf⟩, y0, y1, y2, y3, tf, yf⟩ := S.out.sm
              have zz := S.out.sm.lt
              clear bf x0 x1 x2 xf y0 y1 y2 y3 tf yf
              go_wp2_with fail
              clear b0 b1 b2 t0 t1 t2 t3 zz
              refine Calls.mono (HCY.out _ a i1 aa ca al x co2 cc2 rfl S.out.gr S.out.own HB2 hx1 hx2 C2.out.reads HAM.out) ?_
              rintro e w3 ⟨ir, cr, ar, car, alr, rfl, hor, hgr, hfr, hrl⟩
              have S3 := hideM (S.out.told hor hgr hfr (.slice ao Z cap) ((ir : Nat) : Int) cr)
              have SG := hideM (S.out.sm.grown hgr (fun k e => S.out.out k e))
              have HFL : ∀ g, blk aa = some g → g < w.heap.size ∨ Q ≤ g := fun g e => by
                rcases HF.out g e with h | h
                · exact .inl (S.out.low g h)
                · exact .inr h
              have C13 := hideM (C1.out.told hgr HFL (.slice ao Z cap) ((ir : Nat) : Int) cr (.slice ar alr.length car) (D : Nat) (s : Nat))
              have C23 := hideM (C2.out.told hgr HFL (.slice ao Z cap) ((ir : Nat) : Int) cr (.slice ar alr.length car) (D : Nat) (s : Nat))
              have HF3 : Hid (∀ g, blk ar = some g → blk a = some g ∨ Q ≤ g) := fun g e => by
                rcases hfr g e with h | h
                · exact HF.out g h
                · exact .inr (Nat.le_trans hQw h)
              have hQ3 : Q ≤ (wT (wR w3 w.heap.size (.slice ao Z cap) ((ir : Nat) : Int) cr) (w.heap.size + 1) (.slice ar alr.length car) (D : Nat) (s : Nat)).heap.size := Nat.le_trans hQw (Nat.le_trans hgr.size (Nat.le_trans (wR_grown _ _ _ _ _).size (wT_grown _ _ _ _ _).size))
              have HRL := hideM hrl
              clear hor hgr hfr hrl S C1 C2 HF HFL hQw
              unfold wT wR at S3 C13 C23 hQ3
              obtain ⟨⟨b0, b1, b2, bf⟩, t0, t1, t2, t3, ⟨_, _, _, _⟩, _, _, _, _, tf, _⟩ := SG.out
              have zz := SG.out.lt
              have bf0 := bf 0
              have bf1 := bf 1
              have bf2 := bf 2
              have tf0 := tf 0
              have tf1 := tf 1
              have tf2 := tf 2
              have tf3 := tf 3
              clear bf tf
              go_wp2_with fail
              clear b0 b1 b2 t0 t1 t2 t3 bf0 bf1 bf2 tf0 tf1 tf2 tf3 zz SG
              generalize ((((((w3.setCell ⟨w.heap.size, 0, none⟩ (.slice ao Z cap)).setCell ⟨w.heap.size, 1, none⟩ (.int .i64 ((ir : Nat) : Int))).setCell ⟨w.heap.size, 2, none⟩ (.int .i64 cr)).setCell ⟨w.heap.size + 1, 0, none⟩ (.slice ar (List.length alr) car)).setCell ⟨w.heap.size + 1, 1, none⟩ (.int .i64 (D : Nat))).setCell ⟨w.heap.size + 1, 2, none⟩ (.int .i64 (s : Nat))).setCell ⟨w.heap.size + 1, 3, none⟩ (.int .i64 100000) = W9 at *
              have hir : i1 ≤ ir := HRL.out.2
              have AN : Hid (IAt s zs D k cf 12 (InUse ls ds b) (ir, cr) alr ∧ i ≤ ir) := ⟨HRL.out.1, by have := HII.out; have := HLT.out; omega⟩
              have hirz : ir ≤ 8 * Z := by rw [← HZL.out]; exact HRL.out.1.le
              have MU : Hid (symMu Z ir cr < symMu Z i' 0) := symMu_lt (fun _ => by have := HLT.out; omega) (fun _ => hirz)
              rw [HMU.out] at MU
              clear hir HRL HAM
              go_roundg (symMu Z ir cr)
              case measure => exact MU.out
              case rel => exact ⟨ir, cr, ar, car, alr, rfl, hirz, S3, C13, C23, hQ3, HF3, AN⟩
      · have hc1b : (c1 != 0) = true := by simp [hc1]
        have HFIN : Hid (IAt s zs D k cf 8 (fun c => c.last = b) (i1, c1) al ∧ i ≤ i1) := ⟨(HNO.out hc1).2.off hc1, by have := HII.out; have := HSM.out; omega⟩
        clear hc1 HNO HYES
        obtain ⟨⟨b0, b1, b2, bf⟩, t0, t1, t2, t3, ⟨x0, x1, x2, xf⟩, y0, y1, y2, y3, tf, yf⟩ := S.out.sm
        have zz := S.out.sm.lt
        clear bf t0 t1 t2 t3 x0 x1 x2 xf y0 y1 y2 y3 tf yf
        go_upto_region 7 with fail
        clear b0 b1 b2 zz
        obtain ⟨⟨b0, b1, b2, bf⟩, t0, t1, t2, t3, ⟨x0, x1, x2, xf⟩, y0, y1, y2, y3, tf, yf⟩ := S.out.sm
        have zz := S.out.sm.lt
        have xf0 := xf 0
        have xf1 := xf 1
        have xf2 := xf 2
        have yf0 := yf 0
        have yf1 := yf 1
        have yf2 := yf 2
        have yf3 := yf 3
        clear bf xf tf yf
        have DN := hideM (fun W hW => S.out.post (Rel := fun r' all' => IAt s zs D k cf 8 (fun c => c.last = b) r' all' ∧ i ≤ r'.1) HFIN.out W hW)
        clear S
        go_region
        go_wp2_with fail
        have DN1 := DN.out _ (.inl rfl)
        unfold wT wR at DN1
        obtain ⟨⟨k0, k1, k2, k3, k4, k5, k6⟩, P1, P2⟩ := DN1
        exact bodyPost_ret (v := .tuple #[.agg #[.slice ao Z cap, .int .i64 ((i1 : Nat) : Int), .int .i64 c1], .agg #[.slice aa (List.length al) ca, .int .i64 (D : Nat), .int .i64 (s : Nat), .int .i64 100000]]) (by simp [results, Tryz.results26, go_sem, k0, k1, k2, k3, k4, k5, k6]) rfl (by first | exact P1 | exact P2)
    · have hcb : (c' == 0) = false := by simp [hc]
      have HFIN : Hid (IAt s zs D k cf 8 (fun c => c.last = b) (i', c') al ∧ i ≤ i') := ⟨A.out.1.off hc, A.out.2⟩
      clear hc A
      obtain ⟨⟨b0, b1, b2, bf⟩, t0, t1, t2, t3, ⟨x0, x1, x2, xf⟩, y0, y1, y2, y3, tf, yf⟩ := S.out.sm
      have zz := S.out.sm.lt
      clear bf t0 t1 t2 t3 x0 x1 x2 xf y0 y1 y2 y3 tf yf
      go_upto_region 13 with fail
      clear b0 b1 b2 zz
      obtain ⟨⟨b0, b1, b2, bf⟩, t0, t1, t2, t3, ⟨x0, x1, x2, xf⟩, y0, y1, y2, y3, tf, yf⟩ := S.out.sm
      have zz := S.out.sm.lt
      have xf0 := xf 0
      have xf1 := xf 1
      have xf2 := xf 2
      have yf0 := yf 0
      have yf1 := yf 1
      have yf2 := yf 2
      have yf3 := yf 3
      clear bf xf tf yf
      have DN := hideM (fun W hW => S.out.post (Rel := fun r' all' => IAt s zs D k cf 8 (fun c => c.last = b) r' all' ∧ i ≤ r'.1) HFIN.out W hW)
      clear S
      go_region
      go_wp2_with fail
      have DN1 := DN.out _ (.inl rfl)
      unfold wT wR at DN1
      obtain ⟨⟨k0, k1, k2, k3, k4, k5, k6⟩, P1, P2⟩ := DN1
      exact bodyPost_ret (v := .tuple #[.agg #[.slice ao Z cap, .int .i64 ((i' : Nat) : Int), .int .i64 c'], .agg #[.slice aa (List.length al) ca, .int .i64 (D : Nat), .int .i64 (s : Nat), .int .i64 100000]]) (by simp [results, Tryz.results26, go_sem, k0, k1, k2, k3, k4, k5, k6]) rfl (by first | exact P1 | exact P2)
end Go.Proofs.YtlfabilmilkboaaGreatDoor
