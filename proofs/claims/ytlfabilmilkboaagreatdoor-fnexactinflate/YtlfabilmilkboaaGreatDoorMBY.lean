import Derived.Test.YtlfabilmilkboaaGreatDoorMBX
namespace Go.Proofs.YtlfabilmilkboaaGreatDoor
open Go.RowKit
attribute [local go_sem ↓] Go.wp_at_zero Go.wp_at_succ
set_option linter.unusedVariables false

theorem iaddS_i {c c' : LC} {v : Int} {t : Nat} (hs : addS c v t = .inl c') : c'.i = c.i := by
  unfold addS at hs
  repeat' (split at hs)
  all_goals first | (cases hs; done) | (injection hs with e; subst e; rfl)
theorem ilstep0_i {zs : List Int} {c c' : LC} (hs : lstep0 zs c = .inl c') : c.i ≤ c'.i := by
  unfold lstep0 at hs
  repeat' (split at hs)
  all_goals (try unfold litCountS at hs)
  all_goals (try unfold distCountS at hs)
  all_goals (try unfold codeCountS at hs)
  all_goals (try unfold codeLenS at hs)
  all_goals (try unfold nextLenS at hs)
  all_goals (try unfold repeatS at hs)
  all_goals repeat' (split at hs)
  all_goals first | (cases hs; done) | (injection hs with e; subst e; dsimp only; omega) | (have := iaddS_i hs; dsimp only at this; omega)
theorem LEnds.mono_i {zs : List Int} {c cf : LC} {k : Int} (h : LEnds zs c k cf) (hk : k = 1) : c.i ≤ cf.i := by
  obtain ⟨n, hn⟩ := h
  induction n generalizing c with
  | zero => exact hn.elim
  | succ n ih =>
    rcases hn with ⟨h1, _, e⟩ | ⟨h1, hs⟩ | ⟨h1, c', hs, h3⟩
    · rw [e]
      exact Nat.le_refl _
    · rcases lstep0_no hs with h | h <;> omega
    · exact Nat.le_trans (ilstep0_i hs) (ih h3)
theorem tk_on {zs : List Int} {i n i1 x : Nat} {c0 : Int} (h : tk zs (i, c0) n = ((i1, 0), x)) : c0 = 0 ∧ i1 = i + n := by
  unfold tk at h
  split at h
  · rename_i hc
    split at h
    · injection h with h _
      injection h with h _
      exact ⟨hc, h.symm⟩
    · injection h with h _
      injection h with _ h
      exact absurd h (by decide)
  · rename_i hc
    injection h with h _
    injection h with _ h
    exact absurd h hc
theorem bdP_on {i i1 : Nat} {c0 : Int} {p : Bool} (h : bdP (i, c0) p = (i1, 0)) : c0 = 0 ∧ i1 = i := by
  unfold bdP at h
  split at h
  · injection h with _ h
    exact absurd h (by decide)
  · injection h with h1 h2
    exact ⟨h2, h1.symm⟩
theorem Row64.grownR {w w' : World} {row : Option Nat} {ao : Option Addr} {zs : List Int} (h : Row64 w ao zs) (hg : w.grownBy w' row) (hne : ∀ g, blk ao = some g → some g ≠ row) : Row64 w' ao zs := by
  intro i hi
  obtain ⟨b, off, e, hc⟩ := h i hi
  subst e
  exact ⟨b, off, rfl, (World.cell?_of_block (w := w) (a := ⟨b, off + i, none⟩) (hg.block b (World.block_lt_of_cell? w _ hc) (hne b rfl))).trans hc⟩
theorem F288_okI : okC F288 = true := by decide +kernel
theorem F32_ok : okC F32 = true := by decide +kernel
theorem F32_len : F32.length = 32 := by decide
/-- The state behind a block. -/
def bst (L : Nat) : Nat := if L = 1 then 16 else 7
theorem bst_one : bst 1 = 16 := rfl
theorem bst_zero : bst 0 = 7 := rfl
theorem bst_dec (L : Nat) : (if decide (L = 1) = true then 16 else 7) = bst L := by
  unfold bst
  by_cases h : L = 1 <;> simp [h]
def bMu (Z i : Nat) (c : Int) (L : Nat) : Nat := if c = 0 ∧ L = 0 then 1 + (8 * Z - i) else 0
theorem bMu_lt {Z i i' L : Nat} {c' : Int} (h : c' = 0 → i < i') (hi : c' = 0 → i' ≤ 8 * Z) : bMu Z i' c' L < bMu Z i 0 0 := by
  have e0 : bMu Z i 0 0 = 1 + (8 * Z - i) := if_pos ⟨rfl, rfl⟩
  rw [e0]
  unfold bMu
  split
  · rename_i e
    have := h e.1
    have := hi e.1
    omega
  · omega
set_option maxRecDepth 100000 in
set_option maxHeartbeats 51200000 in
theorem l5Blocks_any (ao : Option Addr) (Z cap : Nat) (zs : List Int) (hZ : zs.length = Z) (i : Nat) (a : Option Addr) (c : Nat) (all : List Int) (D s : Nat) (k : Int) (cf : IC) (B : Nat) (w : World) (hr : Row w ao zs) (hrb : ∀ ad, ao = some ad → ad.block < B) (hz : Octets zs) (hzl : zs.length ≤ 65536) (ho : OwnsB 5 B w a c all) (hB : B ≤ w.heap.size) (hs : s ≤ 32768) (hDs : D ≤ 32768) (hA : IAt s zs D k cf 7 (fun _ => True) (i, 0) all) :
    Calls Tryz.prog 12 #[.agg #[.slice ao Z cap, .int .i64 (i : Nat), .int .i64 0], .agg #[.slice a all.length c, .int .i64 (D : Nat), .int .i64 (s : Nat), .int .i64 100000]] w fun e w' => ToldPost (.slice ao Z cap) (D : Nat) (s : Nat) B a (fun r' all' => IAt s zs D k cf 16 (fun _ => True) r' all') e w w' := by
  have hne : ∀ ad, ao = some ad → some ad.block ≠ blk a := fun ad e h => by have := OwnsB.based ho ad.block h.symm; have := hrb ad e; omega
  have HROW : Hid (∀ W, w.grownBy W (blk a) → Row W ao zs) := fun W hg => hr.grown hg hne
  have HTK : Hid (∀ W i n cl, w.grownBy W (blk a) → i ≤ 8 * Z → n ≤ 32 → Calls Tryz.prog 21 #[.agg #[.slice ao Z cap, .int .i64 (i : Nat), .int .i64 cl], .int .i64 (n : Nat)] W fun e w' => e = .returned (.tuple #[.agg #[.slice ao Z cap, .int .i64 ((tk zs (i, cl) n).1.1 : Nat), .int .i64 (tk zs (i, cl) n).1.2], .int .i64 ((tk zs (i, cl) n).2 : Nat)]) ∧ Below W.heap.size W w') := fun W i n cl hW hi hn => by subst hZ; exact l5Take_any ao cap zs i n cl W (HROW.out W hW) hz hzl hi hn
  have HST : Hid (∀ W i a1 c all b, w.grownBy W (blk a) → OwnsB 5 B W a1 c all → B ≤ W.heap.size → IAt s zs D k cf 9 (fun c => c.last = b) ((i + 7) / 8 * 8, 0) all → Calls Tryz.prog 23 #[.agg #[.slice ao Z cap, .int .i64 (i : Nat), .int .i64 0], .agg #[.slice a1 all.length c, .int .i64 (D : Nat), .int .i64 (s : Nat), .int .i64 100000]] W fun e w' => ToldPost (.slice ao Z cap) (D : Nat) (s : Nat) B a1 (fun r' all' => IAt s zs D k cf 8 (fun c => c.last = b) r' all' ∧ i ≤ r'.1) e W w') := fun W i a1 c all b hW h1 h2 h3 => l5Stored_any ao Z cap zs hZ i a1 c all D s b k cf B W (HROW.out W hW) hrb hz hzl h1 h2 hs hDs h3
  have HSM : Hid (∀ W i a1 c all b ls ds lo lc eo ec, w.grownBy W (blk a) → OwnsB 5 B W a1 c all → B ≤ W.heap.size → Row64 W lo ls → Row64 W eo ds → okC ls = true ∧ okC ds = true ∧ ls.length ≤ 320 ∧ ds.length ≤ 320 → IAt s zs D k cf 12 (InUse ls ds b) (i, 0) all → Calls Tryz.prog 26 #[.agg #[.slice ao Z cap, .int .i64 (i : Nat), .int .i64 0], .agg #[.slice a1 all.length c, .int .i64 (D : Nat), .int .i64 (s : Nat), .int .i64 100000], .slice lo ls.length lc, .slice eo ds.length ec] W fun e w' => ToldPost (.slice ao Z cap) (D : Nat) (s : Nat) B a1 (fun r' all' => IAt s zs D k cf 8 (fun c => c.last = b) r' all' ∧ i ≤ r'.1) e W w') := fun W i a1 c all b ls ds lo lc eo ec hW h1 h2 h3 h4 h5 h6 => l5Symbols_any ao Z cap zs hZ i a1 c all D s ls ds b k cf lo lc eo ec B W (HROW.out W hW) hrb hz hzl h1 h2 hs hDs h3 h4 h5.1 h5.2.1 h5.2.2.1 h5.2.2.2 h6
  have HLE : Hid (∀ W i k2 cf2 c0, w.grownBy W (blk a) → i ≤ 8 * Z → c0.st = 0 → c0.i = i → LEnds zs c0 k2 cf2 → Calls Tryz.prog 25 #[.agg #[.slice ao Z cap, .int .i64 (i : Nat), .int .i64 0]] W fun e w' => LensPost zs ao cap k2 cf2 e W w') := fun W i k2 cf2 c0 hW hi h0 h1 h2 => by subst hZ; exact l5Lens_any ao cap zs i k2 cf2 c0 W (HROW.out W hW) hz hzl hi h0 h1 h2
  have hiz : i ≤ 8 * Z := by have := hA.le; dsimp only at this; omega
  have S := hideM (si_new w a B (.slice ao Z cap) (i : Nat) 0 c all (D : Nat) (s : Nat) 33 35 ho)
  have L := hideM (w4_below w (.slice ao Z cap) (i : Nat) 0 (.slice a all.length c) (D : Nat) (s : Nat) 33 35)
  have HZ := w4_size w (.slice ao Z cap) (i : Nat) 0 (.slice a all.length c) (D : Nat) (s : Nat) 33 35
  have A0 : Hid (IAt s zs D k cf (bst 0) (fun _ => True) (i, 0) all) := hA
  have HZL := hideM hZ
  have Hzl := hideM hzl
  have HBw := hideM hB
  clear hr hrb ho hA hZ hzl hz hDs hs hne HROW hB
  go_enter Tryz.func12, Tryz.ntmps12
  go_upto_region 3 with fail
  rw [w4_eq]
  generalize w4 w (.slice ao Z cap) (i : Nat) 0 (.slice a all.length c) (D : Nat) (s : Nat) 33 35 = W at *
  clear L HZ
  go_loopg [6, 7, 8, 9] (bMu Z i 0 0) (fun n x _ _ _ wr => ∃ (L i' : Nat) (c' : Int) (aa : Option Addr) (ca : Nat) (al : List Int), x = .int .i64 (L : Nat) ∧ L ≤ 1 ∧ Hid (bMu Z i' c' L = n) ∧ i' ≤ 8 * Z ∧ Hid (SI w a B wr (.slice ao Z cap) ((i' : Nat) : Int) c' aa ca al (D : Nat) (s : Nat)) ∧ Hid (IAt s zs D k cf (bst L) (fun _ => True) (i', c') al))
  case atStart => exact ⟨0, i, 0, a, c, all, rfl, Nat.zero_le _, rfl, hiz, S, A0⟩
  case round =>
    clear S A0 hiz
    obtain ⟨L, i', c', aa, ca, al, rfl, hL, HMU, hi', S, A⟩ := hrel
    by_cases hc : c' = 0
    · subst hc
      by_cases hL0 : L = 0
      · subst hL0
        obtain ⟨i1, c1, L1, e1⟩ : ∃ (xi : Nat) (xc : Int) (xF : Nat), tk zs (i', 0) 1 = ((xi, xc), xF) := ⟨_, _, _, rfl⟩
        obtain ⟨i2, c2, K, e2⟩ : ∃ (xi : Nat) (xc : Int) (xF : Nat), tk zs (i1, c1) 2 = ((xi, xc), xF) := ⟨_, _, _, rfl⟩
        obtain ⟨i3, c3, e3⟩ : ∃ (xi : Nat) (xc : Int), bdP (i2, c2) (decide (K = 3)) = (xi, xc) := ⟨_, _, rfl⟩
        obtain ⟨hL1, hK3, hi3z, hcases⟩ := at_head Hzl.out A.out e1 e2 e3
        have hi1 : i1 ≤ 8 * Z := by have := tk_le (zs := zs) (r := (i', 0)) (n := 1) (by dsimp only; rw [HZL.out]; exact hi'); rw [e1, HZL.out] at this; exact this
        have hi2 : i2 ≤ 8 * Z := by have := tk_le (zs := zs) (r := (i1, c1)) (n := 2) (by dsimp only; rw [HZL.out]; exact hi1); rw [e2, HZL.out] at this; exact this
        have hi3 : i3 ≤ 8 * Z := by rw [← HZL.out]; exact hi3z
        have HLT : Hid (c3 = 0 → i' < i3) := fun h => by
          rw [h] at e3
          obtain ⟨g1, g2⟩ := bdP_on e3
          rw [g1] at e2
          obtain ⟨g3, g4⟩ := tk_on e2
          rw [g3] at e1
          have := (tk_on e1).2
          omega
        have hbk : ((K : Int) == 3) = decide (K = 3) := by
          by_cases h : K = 3
          · subst h; rfl
          · rw [decide_eq_false h]; simp; omega
        rw [← hbk] at e3
        have E1 := hideM e1
        have E2 := hideM e2
        have E3 := hideM e3
        have HCA := hideM hcases
        clear e1 e2 e3 hcases hbk A hi3z
        obtain ⟨⟨b0, b1, b2, bf⟩, t0, t1, t2, t3, ⟨x0, x1, x2, xf⟩, y0, y1, y2, y3, tf, yf⟩ := S.out.sm
        have zz := S.out.sm.lt
        clear bf t0 t1 t2 t3 x0 x1 x2 xf y0 y1 y2 y3 tf yf
        go_upto_region 4 with fail
        clear b0 b1 b2 zz
        obtain ⟨⟨b0, b1, b2, bf⟩, t0, t1, t2, t3, ⟨x0, x1, x2, xf⟩, y0, y1, y2, y3, tf, yf⟩ := S.out.sm
        have zz := S.out.sm.lt
        clear bf t0 t1 t2 t3 x0 x1 x2 xf y0 y1 y2 y3 tf yf
        go_wp2_with fail
        clear b0 b1 b2 zz
        refine Calls.mono (HTK.out _ i' 1 0 S.out.gr hi' (by omega)) ?_
        rintro e w1 ⟨rfl, hb⟩
        rw [E1.out]
        dsimp only
        have S' := hideM (S.out.below hb)
        clear hb S 
        have S := hideM (S'.out.setR (.slice ao Z cap) ((i1 : Nat) : Int) c1)
        unfold wR at S 
        obtain ⟨⟨b0, b1, b2, bf⟩, t0, t1, t2, t3, ⟨x0, x1, x2, xf⟩, y0, y1, y2, y3, tf, yf⟩ := S'.out.sm
        have zz := S'.out.sm.lt
        have bf0 := bf 0
        have bf1 := bf 1
        have bf2 := bf 2
        clear bf t0 t1 t2 t3 x0 x1 x2 xf y0 y1 y2 y3 tf yf
        go_upto_region 5 with fail
        clear b0 b1 b2 bf0 bf1 bf2 zz S' 
        generalize ((w1.setCell ⟨w.heap.size, 0, none⟩ (.slice ao Z cap)).setCell ⟨w.heap.size, 1, none⟩ (.int .i64 ((i1 : Nat) : Int))).setCell ⟨w.heap.size, 2, none⟩ (.int .i64 c1) = W at *
        obtain ⟨⟨b0, b1, b2, bf⟩, t0, t1, t2, t3, ⟨x0, x1, x2, xf⟩, y0, y1, y2, y3, tf, yf⟩ := S.out.sm
        have zz := S.out.sm.lt
        clear bf t0 t1 t2 t3 x0 x1 x2 xf y0 y1 y2 y3 tf yf
        go_wp2_with fail
        clear b0 b1 b2 zz
        refine Calls.mono (HTK.out _ i1 2 c1 S.out.gr hi1 (by omega)) ?_
        rintro e w1 ⟨rfl, hb⟩
        rw [E2.out]
        dsimp only
        have S' := hideM (S.out.below hb)
        clear hb S 
        have S := hideM (S'.out.setR (.slice ao Z cap) ((i2 : Nat) : Int) c2)
        unfold wR at S 
        obtain ⟨⟨b0, b1, b2, bf⟩, t0, t1, t2, t3, ⟨x0, x1, x2, xf⟩, y0, y1, y2, y3, tf, yf⟩ := S'.out.sm
        have zz := S'.out.sm.lt
        have bf0 := bf 0
        have bf1 := bf 1
        have bf2 := bf 2
        clear bf t0 t1 t2 t3 x0 x1 x2 xf y0 y1 y2 y3 tf yf
        go_upto_region 6 with fail
        clear b0 b1 b2 bf0 bf1 bf2 zz S' 
        generalize ((w1.setCell ⟨w.heap.size, 0, none⟩ (.slice ao Z cap)).setCell ⟨w.heap.size, 1, none⟩ (.int .i64 ((i2 : Nat) : Int))).setCell ⟨w.heap.size, 2, none⟩ (.int .i64 c2) = W at *
        obtain ⟨⟨b0, b1, b2, bf⟩, t0, t1, t2, t3, ⟨x0, x1, x2, xf⟩, y0, y1, y2, y3, tf, yf⟩ := S.out.sm
        have zz := S.out.sm.lt
        clear bf t0 t1 t2 t3 x0 x1 x2 xf y0 y1 y2 y3 tf yf
        go_wp2_with fail
        clear b0 b1 b2 zz
        refine Calls.mono (l5Bad_any ao Z cap i2 c2 ((K : Int) == 3) _) ?_
        rintro e w1 ⟨rfl, hb⟩
        rw [E3.out]
        dsimp only
        have S' := hideM (S.out.below hb)
        clear hb S 
        have S := hideM (S'.out.setR (.slice ao Z cap) ((i3 : Nat) : Int) c3)
        unfold wR at S 
        obtain ⟨⟨b0, b1, b2, bf⟩, t0, t1, t2, t3, ⟨x0, x1, x2, xf⟩, y0, y1, y2, y3, tf, yf⟩ := S'.out.sm
        have zz := S'.out.sm.lt
        have bf0 := bf 0
        have bf1 := bf 1
        have bf2 := bf 2
        clear bf t0 t1 t2 t3 x0 x1 x2 xf y0 y1 y2 y3 tf yf
        go_upto_region 7 with fail
        clear b0 b1 b2 bf0 bf1 bf2 zz S' 
        generalize ((w1.setCell ⟨w.heap.size, 0, none⟩ (.slice ao Z cap)).setCell ⟨w.heap.size, 1, none⟩ (.int .i64 ((i3 : Nat) : Int))).setCell ⟨w.heap.size, 2, none⟩ (.int .i64 c3) = W at *
        clear E1 E2 E3 hi1 hi2
        have hca := HCA.out
        clear HCA
        rcases hca with ⟨hc3, hA7⟩ | ⟨hc3, hK, hA9⟩ | ⟨hc3, hK, hA11⟩ | ⟨hc3, hK, hA0⟩
        · have hcb : (c3 == 0) = false := by simp [hc3]
          have AN : Hid (IAt s zs D k cf (bst L1) (fun _ => True) (i3, c3) al) := hA7.off hc3
          have MU : Hid (bMu Z i3 c3 L1 < bMu Z i' 0 0) := bMu_lt (fun h => absurd h hc3) (fun h => absurd h hc3)
          rw [HMU.out] at MU
          clear hc3 hA7
          obtain ⟨⟨b0, b1, b2, bf⟩, t0, t1, t2, t3, ⟨x0, x1, x2, xf⟩, y0, y1, y2, y3, tf, yf⟩ := S.out.sm
          have zz := S.out.sm.lt
          clear bf t0 t1 t2 t3 x0 x1 x2 xf y0 y1 y2 y3 tf yf
          go_wp2_with fail
          clear b0 b1 b2 zz
          go_roundg (bMu Z i3 c3 L1)
          case measure => exact MU.out
          case rel => exact ⟨L1, i3, c3, aa, ca, al, rfl, hL1, rfl, hi3, S, AN⟩
        · subst hc3
          have HA9 := hideM hA9
          have HLT3 : Hid (i' < i3) := HLT.out rfl
          have hk0 : ((K : Int) == 0) = true := by rw [hK]; rfl
          have hkp : decide ((K : Int) > 0) = false := decide_eq_false (by omega)
          have hKn : ¬ 0 < K := by omega
          have HB2 : B ≤ W.heap.size := by have := S.out.sm.lt; have := HBw.out; omega
          clear hA9 hK HLT
          obtain ⟨⟨b0, b1, b2, bf⟩, t0, t1, t2, t3, ⟨x0, x1, x2, xf⟩, y0, y1, y2, y3, tf, yf⟩ := S.out.sm
          have zz := S.out.sm.lt
          clear bf x0 x1 x2 xf y0 y1 y2 y3 tf yf
          go_wp2_with fail
          clear b0 b1 b2 t0 t1 t2 t3 zz
          refine Calls.mono (HST.out _ i3 aa ca al (decide (L1 = 1)) S.out.gr S.out.own HB2 HA9.out) ?_
          rintro e w3 ⟨ir, cr, ar, car, alr, rfl, hor, hgr, hfr, hrl⟩
          have S3 := hideM (S.out.told hor hgr hfr (.slice ao Z cap) ((ir : Nat) : Int) cr)
          have SG := hideM (S.out.sm.grown hgr (fun k e => S.out.out k e))
          have HRL := hideM hrl
          clear hor hgr hfr hrl S 
          unfold wT wR at S3 
          obtain ⟨⟨b0, b1, b2, bf⟩, t0, t1, t2, t3, ⟨_, _, _, _⟩, _, _, _, _, tf, _⟩ := SG.out
          have zz := SG.out.lt
          have bf0 := bf 0
          have bf1 := bf 1
          have bf2 := bf 2
          have tf0 := tf 0
          have tf1 := tf 1
          have tf2 := tf 2
          have tf3 := tf 3
          clear bf tf
          go_upto_region 9 with fail
          clear b0 b1 b2 t0 t1 t2 t3 bf0 bf1 bf2 tf0 tf1 tf2 tf3 zz SG
          generalize ((((((w3.setCell ⟨w.heap.size, 0, none⟩ (.slice ao Z cap)).setCell ⟨w.heap.size, 1, none⟩ (.int .i64 ((ir : Nat) : Int))).setCell ⟨w.heap.size, 2, none⟩ (.int .i64 cr)).setCell ⟨w.heap.size + 1, 0, none⟩ (.slice ar (List.length alr) car)).setCell ⟨w.heap.size + 1, 1, none⟩ (.int .i64 (D : Nat))).setCell ⟨w.heap.size + 1, 2, none⟩ (.int .i64 (s : Nat))).setCell ⟨w.heap.size + 1, 3, none⟩ (.int .i64 100000) = W9 at *
          have AN : Hid (IAt s zs D k cf (bst L1) (fun _ => True) (ir, cr) alr) := by
            have h := at_end Hzl.out HRL.out.1
            rw [bst_dec] at h
            exact h
          have hirz : ir ≤ 8 * Z := by rw [← HZL.out]; exact HRL.out.1.le
          have hir3 : i3 ≤ ir := HRL.out.2
          have MU : Hid (bMu Z ir cr L1 < bMu Z i' 0 0) := bMu_lt (fun _ => by have := HLT3.out; omega) (fun _ => hirz)
          rw [HMU.out] at MU
          clear HRL hir3
          by_cases hcr : cr = 0
          · subst hcr
            obtain ⟨⟨b0, b1, b2, bf⟩, t0, t1, t2, t3, ⟨x0, x1, x2, xf⟩, y0, y1, y2, y3, tf, yf⟩ := S3.out.sm
            have zz := S3.out.sm.lt
            clear bf t0 t1 t2 t3 x0 x1 x2 xf y0 y1 y2 y3 tf yf
            go_wp2_with fail
            clear b0 b1 b2 zz
            go_roundg (bMu Z ir 0 L1)
            case measure => exact MU.out
            case rel => exact ⟨L1, ir, 0, ar, car, alr, rfl, hL1, rfl, hirz, S3, AN⟩
          · have hcb : (cr == 0) = false := by simp [hcr]
            clear hcr
            obtain ⟨⟨b0, b1, b2, bf⟩, t0, t1, t2, t3, ⟨x0, x1, x2, xf⟩, y0, y1, y2, y3, tf, yf⟩ := S3.out.sm
            have zz := S3.out.sm.lt
            clear bf t0 t1 t2 t3 x0 x1 x2 xf y0 y1 y2 y3 tf yf
            go_wp2_with fail
            clear b0 b1 b2 zz
            go_roundg (bMu Z ir cr L1)
            case measure => exact MU.out
            case rel => exact ⟨L1, ir, cr, ar, car, alr, rfl, hL1, rfl, hirz, S3, AN⟩
        · subst hc3
          have HA11 := hideM (at_fixed Hzl.out hA11)
          have HLT3 : Hid (i' < i3) := HLT.out rfl
          have hk0 : ((K : Int) == 0) = false := by rw [hK]; rfl
          have hk2 : ((K : Int) == 2) = false := by rw [hK]; rfl
          have hkp : decide ((K : Int) > 0) = true := decide_eq_true (by omega)
          have hKp : 0 < K := by omega
          clear hA11 hK HLT
          obtain ⟨⟨b0, b1, b2, bf⟩, t0, t1, t2, t3, ⟨x0, x1, x2, xf⟩, y0, y1, y2, y3, tf, yf⟩ := S.out.sm
          have zz := S.out.sm.lt
          clear bf t0 t1 t2 t3 x0 x1 x2 xf y0 y1 y2 y3 tf yf
          go_wp2_with fail
          clear b0 b1 b2 zz
          refine Calls.mono (iFixed_any _) ?_
          rintro e w5 ⟨g5, cap5, gd5, cd5, rfl, hr5, hs5, hb⟩
          have S' := hideM (S.out.below hb)
          clear hb S
          have S := S'
          clear S'
          have R5 := hideM hr5
          have R6 := hideM hs5
          have HB2 : B ≤ w5.heap.size := by have := S.out.sm.lt; have := HBw.out; omega
          have HOKS : Hid (okC F288 = true ∧ okC F32 = true ∧ F288.length ≤ 320 ∧ F32.length ≤ 320) := ⟨F288_okI, F32_ok, by rw [F288_len]; decide, by rw [F32_len]; decide⟩
          clear hr5 hs5
          generalize F288 = ls at *
          generalize F32 = ds at *
          obtain ⟨⟨b0, b1, b2, bf⟩, t0, t1, t2, t3, ⟨x0, x1, x2, xf⟩, y0, y1, y2, y3, tf, yf⟩ := S.out.sm
          have zz := S.out.sm.lt
          clear bf x0 x1 x2 xf y0 y1 y2 y3 tf yf
          go_wp2_with fail
          clear b0 b1 b2 t0 t1 t2 t3 zz
          refine Calls.mono (HSM.out _ i3 aa ca al (decide (L1 = 1)) ls ds _ _ _ _ S.out.gr S.out.own HB2 R5.out R6.out HOKS.out HA11.out) ?_
          rintro e w3 ⟨ir, cr, ar, car, alr, rfl, hor, hgr, hfr, hrl⟩
          have S3 := hideM (S.out.told hor hgr hfr (.slice ao Z cap) ((ir : Nat) : Int) cr)
          have SG := hideM (S.out.sm.grown hgr (fun k e => S.out.out k e))
          have HRL := hideM hrl
          clear hor hgr hfr hrl S 
          unfold wT wR at S3 
          obtain ⟨⟨b0, b1, b2, bf⟩, t0, t1, t2, t3, ⟨_, _, _, _⟩, _, _, _, _, tf, _⟩ := SG.out
          have zz := SG.out.lt
          have bf0 := bf 0
          have bf1 := bf 1
          have bf2 := bf 2
          have tf0 := tf 0
          have tf1 := tf 1
          have tf2 := tf 2
          have tf3 := tf 3
          clear bf tf
          go_wp2_with fail
          clear b0 b1 b2 t0 t1 t2 t3 bf0 bf1 bf2 tf0 tf1 tf2 tf3 zz SG
          generalize ((((((w3.setCell ⟨w.heap.size, 0, none⟩ (.slice ao Z cap)).setCell ⟨w.heap.size, 1, none⟩ (.int .i64 ((ir : Nat) : Int))).setCell ⟨w.heap.size, 2, none⟩ (.int .i64 cr)).setCell ⟨w.heap.size + 1, 0, none⟩ (.slice ar (List.length alr) car)).setCell ⟨w.heap.size + 1, 1, none⟩ (.int .i64 (D : Nat))).setCell ⟨w.heap.size + 1, 2, none⟩ (.int .i64 (s : Nat))).setCell ⟨w.heap.size + 1, 3, none⟩ (.int .i64 100000) = W9 at *
          have AN : Hid (IAt s zs D k cf (bst L1) (fun _ => True) (ir, cr) alr) := by
            have h := at_end Hzl.out HRL.out.1
            rw [bst_dec] at h
            exact h
          have hirz : ir ≤ 8 * Z := by rw [← HZL.out]; exact HRL.out.1.le
          have hir3 : i3 ≤ ir := HRL.out.2
          have MU : Hid (bMu Z ir cr L1 < bMu Z i' 0 0) := bMu_lt (fun _ => by have := HLT3.out; omega) (fun _ => hirz)
          rw [HMU.out] at MU
          clear HRL hir3
          go_roundg (bMu Z ir cr L1)
          case measure => exact MU.out
          case rel => exact ⟨L1, ir, cr, ar, car, alr, rfl, hL1, rfl, hirz, S3, AN⟩
        · subst hc3
          obtain ⟨l0, k2, cf2, h0, h1, hE, hyes, hno⟩ := at_dyn Hzl.out hA0
          have HMI : Hid (k2 = 1 → i3 ≤ cf2.i) := fun h => by have := hE.mono_i h; omega
          have HLX := hideM (fun W hW => HLE.out W i3 k2 cf2 l0 hW hi3 h0 h1 hE)
          have HYES := hideM hyes
          have HNO := hideM hno
          have HLT3 : Hid (i' < i3) := HLT.out rfl
          have hk0 : ((K : Int) == 0) = false := by rw [hK]; rfl
          have hk2 : ((K : Int) == 2) = true := by rw [hK]; rfl
          have hkp : decide ((K : Int) > 0) = true := decide_eq_true (by omega)
          have hKp : 0 < K := by omega
          clear hA0 hK HLT h0 h1 hE hyes hno
          obtain ⟨⟨b0, b1, b2, bf⟩, t0, t1, t2, t3, ⟨x0, x1, x2, xf⟩, y0, y1, y2, y3, tf, yf⟩ := S.out.sm
          have zz := S.out.sm.lt
          clear bf t0 t1 t2 t3 x0 x1 x2 xf y0 y1 y2 y3 tf yf
          go_wp2_with fail
          clear b0 b1 b2 zz
          refine Calls.mono (iFixed_any _) ?_
          rintro e w5 ⟨g5, cap5, gd5, cd5, rfl, hr5, hs5, hb⟩
          have S' := hideM (S.out.below hb)
          clear hb S
          have S := S'
          clear S' hr5 hs5
          generalize F288.length = f288 at *
          generalize F32.length = f32 at *
          obtain ⟨⟨b0, b1, b2, bf⟩, t0, t1, t2, t3, ⟨x0, x1, x2, xf⟩, y0, y1, y2, y3, tf, yf⟩ := S.out.sm
          have zz := S.out.sm.lt
          clear bf t0 t1 t2 t3 x0 x1 x2 xf y0 y1 y2 y3 tf yf
          go_wp2_with fail
          clear b0 b1 b2 zz
          refine Calls.mono (HLX.out _ S.out.gr) ?_
          rintro e w6 ⟨i4, c4, a4, n4, p4, a5, n5, p5, rfl, hy4, hn4, hb, hi4z, hge⟩
          rw [HZL.out]
          have S' := hideM (S.out.below hb)
          have HY4 := hideM hy4
          have HN4 := hideM hn4
          have hi4 : i4 ≤ 8 * Z := by rw [← HZL.out]; exact hi4z
          have hszz := S.out.sm.lt
          clear hb S hy4 hn4 hi4z
          have g6 := wR_grown w6 w.heap.size (.slice ao Z cap) ((i4 : Nat) : Int) c4
          have HR4 : Hid (∀ z zs, z = a4 ∨ z = a5 → Row64 w6 z zs → Row64 (wR w6 w.heap.size (.slice ao Z cap) ((i4 : Nat) : Int) c4) z zs) := fun z zs hz h => h.grownR g6 (fun g e => by have : w5.heap.size ≤ g := hge g (by rcases hz with rfl | rfl; exact .inl e; exact .inr e); simp; omega)
          clear g6 hge hszz
          have S := hideM (S'.out.setR (.slice ao Z cap) ((i4 : Nat) : Int) c4)
          unfold wR at S HR4
          obtain ⟨⟨b0, b1, b2, bf⟩, t0, t1, t2, t3, ⟨x0, x1, x2, xf⟩, y0, y1, y2, y3, tf, yf⟩ := S'.out.sm
          have zz := S'.out.sm.lt
          have bf0 := bf 0
          have bf1 := bf 1
          have bf2 := bf 2
          clear bf t0 t1 t2 t3 x0 x1 x2 xf y0 y1 y2 y3 tf yf
          go_upto_region 13 with fail
          clear b0 b1 b2 bf0 bf1 bf2 zz S'
          generalize ((w6.setCell ⟨w.heap.size, 0, none⟩ (.slice ao Z cap)).setCell ⟨w.heap.size, 1, none⟩ (.int .i64 ((i4 : Nat) : Int))).setCell ⟨w.heap.size, 2, none⟩ (.int .i64 c4) = W6 at *
          by_cases hk21 : k2 = 1
          · obtain ⟨rfl, rfl, rfl, rfl, hr1, hr2⟩ := HY4.out hk21
            obtain ⟨o1, o2, o3, o4, hA12⟩ := HYES.out hk21
            have HOKS := hideM (And.intro o1 (And.intro o2 (And.intro o3 o4)))
            have HLT4 : Hid (i' < cf2.i) := by have h1 := HLT3.out; have h2 := HMI.out hk21; show _ < _; omega
            have R5 := hideM (HR4.out _ _ (.inl rfl) hr1)
            have R6 := hideM (HR4.out _ _ (.inr rfl) hr2)
            have HA12 := hideM hA12
            clear o1 o2 o3 o4 hA12 hr1 hr2 HYES HNO HY4 HN4 HR4 HLX HMI HLT3 hk21
            have HLT3 := HLT4
            clear HLT4
            generalize cf2.lens.take (cf2.f 2).toNat = ls at *
            generalize cf2.lens.drop (cf2.f 2).toNat = ds at *
            generalize cf2.i = i4 at *
            have HB2 : B ≤ W6.heap.size := by have := S.out.sm.lt; have := HBw.out; omega
            obtain ⟨⟨b0, b1, b2, bf⟩, t0, t1, t2, t3, ⟨x0, x1, x2, xf⟩, y0, y1, y2, y3, tf, yf⟩ := S.out.sm
            have zz := S.out.sm.lt
            clear bf x0 x1 x2 xf y0 y1 y2 y3 tf yf
            go_wp2_with fail
            clear b0 b1 b2 t0 t1 t2 t3 zz
            refine Calls.mono (HSM.out _ i4 aa ca al (decide (L1 = 1)) ls ds _ _ _ _ S.out.gr S.out.own HB2 R5.out R6.out HOKS.out HA12.out) ?_
            rintro e w3 ⟨ir, cr, ar, car, alr, rfl, hor, hgr, hfr, hrl⟩
            have S3 := hideM (S.out.told hor hgr hfr (.slice ao Z cap) ((ir : Nat) : Int) cr)
            have SG := hideM (S.out.sm.grown hgr (fun k e => S.out.out k e))
            have HRL := hideM hrl
            clear hor hgr hfr hrl S 
            unfold wT wR at S3 
            obtain ⟨⟨b0, b1, b2, bf⟩, t0, t1, t2, t3, ⟨_, _, _, _⟩, _, _, _, _, tf, _⟩ := SG.out
            have zz := SG.out.lt
            have bf0 := bf 0
            have bf1 := bf 1
            have bf2 := bf 2
            have tf0 := tf 0
            have tf1 := tf 1
            have tf2 := tf 2
            have tf3 := tf 3
            clear bf tf
            go_wp2_with fail
            clear b0 b1 b2 t0 t1 t2 t3 bf0 bf1 bf2 tf0 tf1 tf2 tf3 zz SG
            generalize ((((((w3.setCell ⟨w.heap.size, 0, none⟩ (.slice ao Z cap)).setCell ⟨w.heap.size, 1, none⟩ (.int .i64 ((ir : Nat) : Int))).setCell ⟨w.heap.size, 2, none⟩ (.int .i64 cr)).setCell ⟨w.heap.size + 1, 0, none⟩ (.slice ar (List.length alr) car)).setCell ⟨w.heap.size + 1, 1, none⟩ (.int .i64 (D : Nat))).setCell ⟨w.heap.size + 1, 2, none⟩ (.int .i64 (s : Nat))).setCell ⟨w.heap.size + 1, 3, none⟩ (.int .i64 100000) = W9 at *
            have AN : Hid (IAt s zs D k cf (bst L1) (fun _ => True) (ir, cr) alr) := by
              have h := at_end Hzl.out HRL.out.1
              rw [bst_dec] at h
              exact h
            have hirz : ir ≤ 8 * Z := by rw [← HZL.out]; exact HRL.out.1.le
            have hir3 : i4 ≤ ir := HRL.out.2
            have MU : Hid (bMu Z ir cr L1 < bMu Z i' 0 0) := bMu_lt (fun _ => by have := HLT3.out; omega) (fun _ => hirz)
            rw [HMU.out] at MU
            clear HRL hir3
            go_roundg (bMu Z ir cr L1)
            case measure => exact MU.out
            case rel => exact ⟨L1, ir, cr, ar, car, alr, rfl, hL1, rfl, hirz, S3, AN⟩
          · obtain ⟨hk20, hall⟩ := HNO.out hk21
            obtain rfl := HN4.out hk21
            have hcb : (c4 == 0) = false := by simp [hk20]
            have AN : Hid (IAt s zs D k cf (bst L1) (fun _ => True) (i4, c4) al) := (hall i4 (by rw [HZL.out]; exact hi4)).off hk20
            have MU : Hid (bMu Z i4 c4 L1 < bMu Z i' 0 0) := bMu_lt (fun h => absurd h hk20) (fun h => absurd h hk20)
            rw [HMU.out] at MU
            clear hk20 hall hk21 HNO HYES HY4 HN4 HR4 HLX HMI
            obtain ⟨⟨b0, b1, b2, bf⟩, t0, t1, t2, t3, ⟨x0, x1, x2, xf⟩, y0, y1, y2, y3, tf, yf⟩ := S.out.sm
            have zz := S.out.sm.lt
            clear bf t0 t1 t2 t3 x0 x1 x2 xf y0 y1 y2 y3 tf yf
            go_wp2_with fail
            clear b0 b1 b2 zz
            go_roundg (bMu Z i4 c4 L1)
            case measure => exact MU.out
            case rel => exact ⟨L1, i4, c4, aa, ca, al, rfl, hL1, rfl, hi4, S, AN⟩
      · have hL1 : L = 1 := by omega
        have hLb : ((L : Int) == 0) = false := by rw [hL1]; rfl
        have HFIN : Hid (IAt s zs D k cf 16 (fun _ => True) (i', 0) al) := by
          have h := A.out
          rw [hL1, bst_one] at h
          exact h
        clear A hL1 hL0 HMU
        obtain ⟨⟨b0, b1, b2, bf⟩, t0, t1, t2, t3, ⟨x0, x1, x2, xf⟩, y0, y1, y2, y3, tf, yf⟩ := S.out.sm
        have zz := S.out.sm.lt
        clear bf t0 t1 t2 t3 x0 x1 x2 xf y0 y1 y2 y3 tf yf
        go_upto_region 15 with fail
        clear b0 b1 b2 zz
        obtain ⟨⟨b0, b1, b2, bf⟩, t0, t1, t2, t3, ⟨x0, x1, x2, xf⟩, y0, y1, y2, y3, tf, yf⟩ := S.out.sm
        have zz := S.out.sm.lt
        have xf0 := xf 0
        have xf1 := xf 1
        have xf2 := xf 2
        have yf0 := yf 0
        have yf1 := yf 1
        have yf2 := yf 2
        have yf3 := yf 3
        clear bf xf tf yf
        have DN := hideM (fun W hW => S.out.post (Rel := fun r' all' => IAt s zs D k cf 16 (fun _ => True) r' all') HFIN.out W hW)
        clear S
        go_region
        go_wp2_with fail
        have DN1 := DN.out _ (.inl rfl)
        unfold wT wR at DN1
        obtain ⟨⟨k0, k1, k2, k3, k4, k5, k6⟩, P1, P2⟩ := DN1
        exact bodyPost_ret (v := .tuple #[.agg #[.slice ao Z cap, .int .i64 ((i' : Nat) : Int), .int .i64 0], .agg #[.slice aa (List.length al) ca, .int .i64 (D : Nat), .int .i64 (s : Nat), .int .i64 100000]]) (by simp [results, Tryz.results12, go_sem, k0, k1, k2, k3, k4, k5, k6]) rfl (by first | exact P1 | exact P2)
    · have hcb : (c' == 0) = false := by simp [hc]
      have HFIN : Hid (IAt s zs D k cf 16 (fun _ => True) (i', c') al) := A.out.off hc
      clear A hc HMU
      obtain ⟨⟨b0, b1, b2, bf⟩, t0, t1, t2, t3, ⟨x0, x1, x2, xf⟩, y0, y1, y2, y3, tf, yf⟩ := S.out.sm
      have zz := S.out.sm.lt
      clear bf t0 t1 t2 t3 x0 x1 x2 xf y0 y1 y2 y3 tf yf
      go_upto_region 15 with fail
      clear b0 b1 b2 zz
      obtain ⟨⟨b0, b1, b2, bf⟩, t0, t1, t2, t3, ⟨x0, x1, x2, xf⟩, y0, y1, y2, y3, tf, yf⟩ := S.out.sm
      have zz := S.out.sm.lt
      have xf0 := xf 0
      have xf1 := xf 1
      have xf2 := xf 2
      have yf0 := yf 0
      have yf1 := yf 1
      have yf2 := yf 2
      have yf3 := yf 3
      clear bf xf tf yf
      have DN := hideM (fun W hW => S.out.post (Rel := fun r' all' => IAt s zs D k cf 16 (fun _ => True) r' all') HFIN.out W hW)
      clear S
      go_region
      go_wp2_with fail
      have DN1 := DN.out _ (.inl rfl)
      unfold wT wR at DN1
      obtain ⟨⟨k0, k1, k2, k3, k4, k5, k6⟩, P1, P2⟩ := DN1
      exact bodyPost_ret (v := .tuple #[.agg #[.slice ao Z cap, .int .i64 ((i' : Nat) : Int), .int .i64 c'], .agg #[.slice aa (List.length al) ca, .int .i64 (D : Nat), .int .i64 (s : Nat), .int .i64 100000]]) (by simp [results, Tryz.results12, go_sem, k0, k1, k2, k3, k4, k5, k6]) rfl (by first | exact P1 | exact P2)
end Go.Proofs.YtlfabilmilkboaaGreatDoor
