import Derived.Test.YtlfabilmilkboaaGreatDoorMBW
namespace Go.Proofs.YtlfabilmilkboaaGreatDoor
open Go.RowKit
attribute [local go_sem ↓] Go.wp_at_zero Go.wp_at_succ
set_option linter.unusedVariables false

theorem tk_mono (zs : List Int) (r : RR) (n : Nat) : r.1 ≤ (tk zs r n).1.1 := by
  unfold tk
  split
  · split
    · dsimp only; omega
    · exact Nat.le_refl _
  · exact Nat.le_refl _
set_option maxRecDepth 100000 in
set_option maxHeartbeats 25600000 in
theorem l5Stored_any (ao : Option Addr) (Z cap : Nat) (zs : List Int) (hZ : zs.length = Z) (i : Nat) (a : Option Addr) (c : Nat) (all : List Int) (D s : Nat) (b : Bool) (k : Int) (cf : IC) (B : Nat) (w : World) (hr : Row w ao zs) (hrb : ∀ ad, ao = some ad → ad.block < B) (hz : Octets zs) (hzl : zs.length ≤ 65536) (ho : OwnsB 5 B w a c all) (hB : B ≤ w.heap.size) (hs : s ≤ 32768) (hDs : D ≤ 32768) (hA : IAt s zs D k cf 9 (fun c => c.last = b) ((i + 7) / 8 * 8, 0) all) :
    Calls Tryz.prog 23 #[.agg #[.slice ao Z cap, .int .i64 (i : Nat), .int .i64 0], .agg #[.slice a all.length c, .int .i64 (D : Nat), .int .i64 (s : Nat), .int .i64 100000]] w fun e w' => ToldPost (.slice ao Z cap) (D : Nat) (s : Nat) B a (fun r' all' => IAt s zs D k cf 8 (fun c => c.last = b) r' all' ∧ i ≤ r'.1) e w w' := by
  have hne : ∀ ad, ao = some ad → some ad.block ≠ blk a := fun ad e h => by have := OwnsB.based ho ad.block h.symm; have := hrb ad e; omega
  have HROW : Hid (∀ W, w.grownBy W (blk a) → Row W ao zs) := fun W hg => hr.grown hg hne
  have HTK : Hid (∀ W i n cl, w.grownBy W (blk a) → i ≤ 8 * Z → n ≤ 32 → Calls Tryz.prog 21 #[.agg #[.slice ao Z cap, .int .i64 (i : Nat), .int .i64 cl], .int .i64 (n : Nat)] W fun e w' => e = .returned (.tuple #[.agg #[.slice ao Z cap, .int .i64 ((tk zs (i, cl) n).1.1 : Nat), .int .i64 (tk zs (i, cl) n).1.2], .int .i64 ((tk zs (i, cl) n).2 : Nat)]) ∧ Below W.heap.size W w') := fun W i n cl hW hi hn => by subst hZ; exact l5Take_any ao cap zs i n cl W (HROW.out W hW) hz hzl hi hn
  have HTL : Hid (∀ W i cl a c all g x, OwnsB 5 B W a c all → B ≤ W.heap.size → Row W (some ⟨g, 0, none⟩) [x] → D ≤ all.length → all.length ≤ 200000 → Calls Tryz.prog 34 #[.agg #[.slice ao Z cap, .int .i64 (i : Nat), .int .i64 cl], .agg #[.slice a all.length c, .int .i64 (D : Nat), .int .i64 (s : Nat), .int .i64 100000], .slice (some ⟨g, 0, none⟩) 1 1] W fun e w' => ToldPost (.slice ao Z cap) (D : Nat) (s : Nat) B a (fun r' all' => (r', all') = tlP D (i, cl) all [x]) e W w') := fun W i cl a c all g x h1 h2 h3 h5 h6 => l5Tell_any ao Z cap i cl a c all D s (some ⟨g, 0, none⟩) 1 [x] B W h1 h2 h3 (fun e => by cases e) h5 h6 (by simp)
  obtain ⟨q, hq⟩ : ∃ q, (i + 7) / 8 = q := ⟨_, rfl⟩
  rw [hq] at hA
  obtain ⟨p, hp⟩ : ∃ p, q * 8 = p := ⟨_, rfl⟩
  rw [hp] at hA
  have hpz : p ≤ 8 * Z := by have := hA.le; dsimp only at this; omega
  have hip : i ≤ p := by omega
  have hqi : ((i : Int) + 7).tdiv 8 = (q : Int) := by rw [Int.tdiv_eq_ediv_of_nonneg (by omega)]; omega
  have hpi : (q : Int) * 8 = (p : Int) := by omega
  have hqz : q ≤ 70000 := by omega
  have hiz : i ≤ 600000 := by omega
  obtain ⟨i1, c1, n, e1⟩ : ∃ (xi : Nat) (xc : Int) (xF : Nat), tk zs (p, 0) 16 = ((xi, xc), xF) := ⟨_, _, _, rfl⟩
  obtain ⟨i2, c2, m, e2⟩ : ∃ (xi : Nat) (xc : Int) (xF : Nat), tk zs (i1, c1) 16 = ((xi, xc), xF) := ⟨_, _, _, rfl⟩
  obtain ⟨i3, c3, e3⟩ : ∃ (xi : Nat) (xc : Int), bdP (i2, c2) (decide ((m : Int) ≠ 65535 - (n : Int))) = (xi, xc) := ⟨_, _, rfl⟩
  obtain ⟨hn, hm, hi3z, hA3⟩ := at_stored hzl hA e1 e2 e3
  have hi1 : i1 ≤ 8 * Z := by have := tk_le (zs := zs) (r := (p, 0)) (n := 16) (by dsimp only; omega); rw [e1] at this; dsimp only at this; omega
  have hi2 : i2 ≤ 8 * Z := by have := tk_le (zs := zs) (r := (i1, c1)) (n := 16) (by dsimp only; omega); rw [e2] at this; dsimp only at this; omega
  have hm1 : p ≤ i1 := by have := tk_mono zs (p, 0) 16; rw [e1] at this; exact this
  have hm2 : i1 ≤ i2 := by have := tk_mono zs (i1, c1) 16; rw [e2] at this; exact this
  have hm3 : i3 = i2 := by have := ibdP_fst (i2, c2) (decide ((m : Int) ≠ 65535 - (n : Int))); rw [e3] at this; exact this
  have hii3 : i ≤ i3 := by omega
  have hi3 : i3 ≤ 8 * Z := by omega
  rw [← bne_dec] at e3
  have E1 := hideM e1
  have E2 := hideM e2
  have E3 := hideM e3
  have A3 : Hid (IAt s zs D k cf 10 (fun c => c.last = b ∧ c.stored = n) (i3, c3) all ∧ i ≤ i3) := ⟨hA3, hii3⟩
  have HDS := hideM hDs
  have S := hideM (si_new w a B (.slice ao Z cap) (i : Nat) 0 c all (D : Nat) (s : Nat) 33 35 ho)
  have L := hideM (w4_below w (.slice ao Z cap) (i : Nat) 0 (.slice a all.length c) (D : Nat) (s : Nat) 33 35)
  have HZ := w4_size w (.slice ao Z cap) (i : Nat) 0 (.slice a all.length c) (D : Nat) (s : Nat) 33 35
  have HZL := hideM hZ
  have Hzl := hideM hzl
  have Hz := hideM hz
  have HBw := hideM hB
  clear hr hrb ho hA hZ hzl hz hDs hne HROW hB hq hp e1 e2 e3 hA3 hm1 hm2 hm3 hi3z hii3
  go_enter Tryz.func23, Tryz.ntmps23
  go_upto_region 4 with fail
  rw [w4_eq]
  generalize w4 w (.slice ao Z cap) (i : Nat) 0 (.slice a all.length c) (D : Nat) (s : Nat) 33 35 = W at *
  clear L HZ
  have SP := hideM (S.out.plc ((p : Nat) : Int))
  obtain ⟨⟨b0, b1, b2, bf⟩, t0, t1, t2, t3, ⟨x0, x1, x2, xf⟩, y0, y1, y2, y3, tf, yf⟩ := S.out.sm
  have zz := S.out.sm.lt
  have bf1 := bf 1
  clear bf t0 t1 t2 t3 x0 x1 x2 xf y0 y1 y2 y3 tf yf
  go_upto_region 6 with fail
  clear b0 b1 b2 bf1 zz S
  generalize W.setCell ⟨w.heap.size, 1, none⟩ (.int .i64 ((p : Nat) : Int)) = W5 at *
  have S := SP
  clear SP
  obtain ⟨⟨b0, b1, b2, bf⟩, t0, t1, t2, t3, ⟨x0, x1, x2, xf⟩, y0, y1, y2, y3, tf, yf⟩ := S.out.sm
  have zz := S.out.sm.lt
  clear bf t0 t1 t2 t3 x0 x1 x2 xf y0 y1 y2 y3 tf yf
  go_wp2_with fail
  clear b0 b1 b2 zz
  refine Calls.mono (HTK.out _ p 16 0 S.out.gr hpz (by omega)) ?_
  rintro e w1 ⟨rfl, hb⟩
  rw [E1.out]
  dsimp only
  have S' := hideM (S.out.below hb)
  clear hb S 
  have S := hideM (S'.out.setR (.slice ao Z cap) ((i1 : Nat) : Int) c1)
  unfold wR at S 
  obtain ⟨⟨b0, b1, b2, bf⟩, t0, t1, t2, t3, ⟨x0, x1, x2, xf⟩, y0, y1, y2, y3, tf, yf⟩ := S'.out.sm
  have zz := S'.out.sm.lt
  have bf0 := bf 0
  have bf1 := bf 1
  have bf2 := bf 2
  clear bf t0 t1 t2 t3 x0 x1 x2 xf y0 y1 y2 y3 tf yf
  go_upto_region 7 with fail
  clear b0 b1 b2 bf0 bf1 bf2 zz S' 
  generalize ((w1.setCell ⟨w.heap.size, 0, none⟩ (.slice ao Z cap)).setCell ⟨w.heap.size, 1, none⟩ (.int .i64 ((i1 : Nat) : Int))).setCell ⟨w.heap.size, 2, none⟩ (.int .i64 c1) = W at *
  obtain ⟨⟨b0, b1, b2, bf⟩, t0, t1, t2, t3, ⟨x0, x1, x2, xf⟩, y0, y1, y2, y3, tf, yf⟩ := S.out.sm
  have zz := S.out.sm.lt
  clear bf t0 t1 t2 t3 x0 x1 x2 xf y0 y1 y2 y3 tf yf
  go_wp2_with fail
  clear b0 b1 b2 zz
  refine Calls.mono (HTK.out _ i1 16 c1 S.out.gr hi1 (by omega)) ?_
  rintro e w1 ⟨rfl, hb⟩
  rw [E2.out]
  dsimp only
  have S' := hideM (S.out.below hb)
  clear hb S 
  have S := hideM (S'.out.setR (.slice ao Z cap) ((i2 : Nat) : Int) c2)
  unfold wR at S 
  obtain ⟨⟨b0, b1, b2, bf⟩, t0, t1, t2, t3, ⟨x0, x1, x2, xf⟩, y0, y1, y2, y3, tf, yf⟩ := S'.out.sm
  have zz := S'.out.sm.lt
  have bf0 := bf 0
  have bf1 := bf 1
  have bf2 := bf 2
  clear bf t0 t1 t2 t3 x0 x1 x2 xf y0 y1 y2 y3 tf yf
  go_upto_region 8 with fail
  clear b0 b1 b2 bf0 bf1 bf2 zz S' 
  generalize ((w1.setCell ⟨w.heap.size, 0, none⟩ (.slice ao Z cap)).setCell ⟨w.heap.size, 1, none⟩ (.int .i64 ((i2 : Nat) : Int))).setCell ⟨w.heap.size, 2, none⟩ (.int .i64 c2) = W at *
  obtain ⟨⟨b0, b1, b2, bf⟩, t0, t1, t2, t3, ⟨x0, x1, x2, xf⟩, y0, y1, y2, y3, tf, yf⟩ := S.out.sm
  have zz := S.out.sm.lt
  clear bf t0 t1 t2 t3 x0 x1 x2 xf y0 y1 y2 y3 tf yf
  go_wp2_with fail
  clear b0 b1 b2 zz
  refine Calls.mono (l5Bad_any ao Z cap i2 c2 ((m : Int) != 65535 - (n : Int)) _) ?_
  rintro e w1 ⟨rfl, hb⟩
  rw [E3.out]
  dsimp only
  have S' := hideM (S.out.below hb)
  clear hb S 
  have S := hideM (S'.out.setR (.slice ao Z cap) ((i3 : Nat) : Int) c3)
  unfold wR at S 
  obtain ⟨⟨b0, b1, b2, bf⟩, t0, t1, t2, t3, ⟨x0, x1, x2, xf⟩, y0, y1, y2, y3, tf, yf⟩ := S'.out.sm
  have zz := S'.out.sm.lt
  have bf0 := bf 0
  have bf1 := bf 1
  have bf2 := bf 2
  clear bf t0 t1 t2 t3 x0 x1 x2 xf y0 y1 y2 y3 tf yf
  go_upto_region 10 with fail
  clear b0 b1 b2 bf0 bf1 bf2 zz S' 
  generalize ((w1.setCell ⟨w.heap.size, 0, none⟩ (.slice ao Z cap)).setCell ⟨w.heap.size, 1, none⟩ (.int .i64 ((i3 : Nat) : Int))).setCell ⟨w.heap.size, 2, none⟩ (.int .i64 c3) = W at *
  clear E1 E2 E3
  go_loopw [8, 9] (fun _ kk wr => ∃ (j i' : Nat) (c' : Int) (aa : Option Addr) (ca : Nat) (al : List Int), j ≤ n ∧ kk = .int .i64 (j : Nat) ∧ i' ≤ 8 * Z ∧ Hid (SI w a B wr (.slice ao Z cap) ((i' : Nat) : Int) c' aa ca al (D : Nat) (s : Nat)) ∧ Hid (IAt s zs D k cf 10 (fun c => c.last = b ∧ c.stored = n - j) (i', c') al ∧ i ≤ i')) (fun _ kk _ => n - (intOf kk).toNat)
  case atStart => exact ⟨0, i3, c3, a, c, all, Nat.zero_le _, rfl, hi3, S, A3⟩
  case round =>
    clear S A3 hi3 hi2 hi1 hpz hip hqi hpi hqz hiz
    obtain ⟨j, i', c', aa, ca, al, hj, rfl, hi', S, A⟩ := hrel
    by_cases hjn : j < n
    · have hdj : decide ((j : Int) < (n : Int)) = true := decide_eq_true (by omega)
      by_cases hc : c' = 0
      · subst hc
        obtain ⟨m', hm'⟩ : ∃ m', n - j = m' + 1 := ⟨n - j - 1, by omega⟩
        obtain ⟨i1, c1, x, e1⟩ : ∃ (xi : Nat) (xc : Int) (xF : Nat), tk zs (i', 0) 8 = ((xi, xc), xF) := ⟨_, _, _, rfl⟩
        have hA := A.out.1
        rw [hm'] at hA
        have HBY : Hid (∀ i2 c2 all', tlP D (i1, c1) al [(x : Int)] = ((i2, c2), all') → IAt s zs D k cf 10 (fun c => c.last = b ∧ c.stored = n - (j + 1)) (i2, c2) all') := fun i2 c2 all' e => by
          have h := (at_byte Hz.out Hzl.out hA e1 e).2.2
          rw [show n - (j + 1) = m' by omega]
          exact h
        have hx : x ≤ 255 := by
          obtain ⟨i9, c9, all9, e9⟩ : ∃ (xi : Nat) (xc : Int) (xA : List Int), tlP D (i1, c1) al [(x : Int)] = ((xi, xc), xA) := ⟨_, _, _, rfl⟩
          exact (at_byte Hz.out Hzl.out hA e1 e9).1
        have hi1 : i1 ≤ 8 * Z := by have := tk_le (zs := zs) (r := (i', 0)) (n := 8) (by dsimp only; rw [HZL.out]; exact hi'); rw [e1, HZL.out] at this; exact this
        have hm1 : i' ≤ i1 := by have := tk_mono zs (i', 0) 8; rw [e1] at this; exact this
        have HII : Hid (i ≤ i1) := Nat.le_trans A.out.2 hm1
        have HLN := hideM hA.len
        have E1 := hideM e1
        have hcv : IntKind.u8.wrap (x : Int) = (x : Int) := by rw [IntKind.wrap_u8]; omega
        clear e1 hA A hm' hm1
        obtain ⟨⟨b0, b1, b2, bf⟩, t0, t1, t2, t3, ⟨x0, x1, x2, xf⟩, y0, y1, y2, y3, tf, yf⟩ := S.out.sm
        have zz := S.out.sm.lt
        clear bf t0 t1 t2 t3 x0 x1 x2 xf y0 y1 y2 y3 tf yf
        go_upto_region 12 with fail
        clear b0 b1 b2 zz
        obtain ⟨⟨b0, b1, b2, bf⟩, t0, t1, t2, t3, ⟨x0, x1, x2, xf⟩, y0, y1, y2, y3, tf, yf⟩ := S.out.sm
        have zz := S.out.sm.lt
        clear bf t0 t1 t2 t3 x0 x1 x2 xf y0 y1 y2 y3 tf yf
        go_wp2_with fail
        clear b0 b1 b2 zz
        refine Calls.mono (HTK.out _ i' 8 0 S.out.gr hi' (by omega)) ?_
        rintro e w1 ⟨rfl, hb⟩
        rw [E1.out]
        dsimp only
        have S' := hideM (S.out.below hb)
        clear hb S 
        have S := hideM (S'.out.setR (.slice ao Z cap) ((i1 : Nat) : Int) c1)
        unfold wR at S 
        obtain ⟨⟨b0, b1, b2, bf⟩, t0, t1, t2, t3, ⟨x0, x1, x2, xf⟩, y0, y1, y2, y3, tf, yf⟩ := S'.out.sm
        have zz := S'.out.sm.lt
        have bf0 := bf 0
        have bf1 := bf 1
        have bf2 := bf 2
        clear bf t0 t1 t2 t3 x0 x1 x2 xf y0 y1 y2 y3 tf yf
        go_upto_region 13 with fail
        clear b0 b1 b2 bf0 bf1 bf2 zz S' 
        generalize ((w1.setCell ⟨w.heap.size, 0, none⟩ (.slice ao Z cap)).setCell ⟨w.heap.size, 1, none⟩ (.int .i64 ((i1 : Nat) : Int))).setCell ⟨w.heap.size, 2, none⟩ (.int .i64 c1) = W at *
        have HRX := hideM (irow_one W (x : Int) 5)
        have HB2 : B ≤ (W.alloc (.cells #[.int .u8 (x : Int)] 5)).heap.size := by have := S.out.sm.lt; have := HBw.out; simp; omega
        obtain ⟨⟨b0, b1, b2, bf⟩, t0, t1, t2, t3, ⟨x0, x1, x2, xf⟩, y0, y1, y2, y3, tf, yf⟩ := S.out.sm
        have zz := S.out.sm.lt
        clear bf x0 x1 x2 xf y0 y1 y2 y3 tf yf
        have ba : Below W.heap.size W (W.alloc (.cells #[.int .u8 (x : Int)] 5)) := (Below.refl _ _).alloc (Nat.le_refl _) _
        have SB := hideM (S.out.below ba)
        clear ba
        go_wp2_with fail
        clear b0 b1 b2 t0 t1 t2 t3 zz
        refine Calls.mono (HTL.out _ i1 c1 aa ca al _ (x : Int) SB.out.own HB2 HRX.out HLN.out.1 (by have := HLN.out; have := HDS.out; omega)) ?_
        rintro e w3 ⟨ir, cr, ar, car, alr, rfl, hor, hgr, hfr, hrl⟩
        have S3 := hideM (SB.out.told hor hgr hfr (.slice ao Z cap) ((ir : Nat) : Int) cr)
        have SG := hideM (SB.out.sm.grown hgr (fun k e => SB.out.out k e))
        have HRL := hideM hrl
        clear hor hgr hfr hrl S 
        clear SB 
        unfold wT wR at S3 
        obtain ⟨⟨b0, b1, b2, bf⟩, t0, t1, t2, t3, ⟨_, _, _, _⟩, _, _, _, _, tf, _⟩ := SG.out
        have zz := SG.out.lt
        have bf0 := bf 0
        have bf1 := bf 1
        have bf2 := bf 2
        have tf0 := tf 0
        have tf1 := tf 1
        have tf2 := tf 2
        have tf3 := tf 3
        clear bf tf
        go_wp2_with fail
        clear b0 b1 b2 t0 t1 t2 t3 bf0 bf1 bf2 tf0 tf1 tf2 tf3 zz SG
        generalize ((((((w3.setCell ⟨w.heap.size, 0, none⟩ (.slice ao Z cap)).setCell ⟨w.heap.size, 1, none⟩ (.int .i64 ((ir : Nat) : Int))).setCell ⟨w.heap.size, 2, none⟩ (.int .i64 cr)).setCell ⟨w.heap.size + 1, 0, none⟩ (.slice ar (List.length alr) car)).setCell ⟨w.heap.size + 1, 1, none⟩ (.int .i64 (D : Nat))).setCell ⟨w.heap.size + 1, 2, none⟩ (.int .i64 (s : Nat))).setCell ⟨w.heap.size + 1, 3, none⟩ (.int .i64 100000) = W9 at *
        have hir : ir = i1 := by have := tlP_fst D (i1, c1) al [(x : Int)]; rw [← HRL.out] at this; exact this
        have AN : Hid (IAt s zs D k cf 10 (fun c => c.last = b ∧ c.stored = n - (j + 1)) (ir, cr) alr ∧ i ≤ ir) := ⟨HBY.out ir cr alr HRL.out.symm, by have := HII.out; omega⟩
        have hirz : ir ≤ 8 * Z := by omega
        exact ⟨⟨j + 1, ir, cr, ar, car, alr, by omega, by go_num, hirz, S3, AN⟩, by simp [intOf]; omega⟩
      · have hcb : (c' == 0) = false := by simp [hc]
        have HFIN : Hid (IAt s zs D k cf 8 (fun c => c.last = b) (i', c') al ∧ i ≤ i') := ⟨A.out.1.off hc, A.out.2⟩
        clear hc A
        obtain ⟨⟨b0, b1, b2, bf⟩, t0, t1, t2, t3, ⟨x0, x1, x2, xf⟩, y0, y1, y2, y3, tf, yf⟩ := S.out.sm
        have zz := S.out.sm.lt
        clear bf t0 t1 t2 t3 x0 x1 x2 xf y0 y1 y2 y3 tf yf
        go_upto_region 14 with fail
        clear b0 b1 b2 zz
        obtain ⟨⟨b0, b1, b2, bf⟩, t0, t1, t2, t3, ⟨x0, x1, x2, xf⟩, y0, y1, y2, y3, tf, yf⟩ := S.out.sm
        have zz := S.out.sm.lt
        have xf0 := xf 0
        have xf1 := xf 1
        have xf2 := xf 2
        have yf0 := yf 0
        have yf1 := yf 1
        have yf2 := yf 2
        have yf3 := yf 3
        clear bf xf tf yf
        have DN := hideM (fun W hW => S.out.post (Rel := fun r' all' => IAt s zs D k cf 8 (fun c => c.last = b) r' all' ∧ i ≤ r'.1) HFIN.out W hW)
        clear S
        go_region
        go_wp2_with fail
        have DN1 := DN.out _ (.inl rfl)
        unfold wT wR at DN1
        obtain ⟨⟨k0, k1, k2, k3, k4, k5, k6⟩, P1, P2⟩ := DN1
        exact bodyPost_ret (v := .tuple #[.agg #[.slice ao Z cap, .int .i64 ((i' : Nat) : Int), .int .i64 c'], .agg #[.slice aa (List.length al) ca, .int .i64 (D : Nat), .int .i64 (s : Nat), .int .i64 100000]]) (by simp [results, Tryz.results23, go_sem, k0, k1, k2, k3, k4, k5, k6]) rfl (by first | exact P1 | exact P2)
    · have hdj : decide ((j : Int) < (n : Int)) = false := decide_eq_false (by omega)
      have HFIN : Hid (IAt s zs D k cf 8 (fun c => c.last = b) (i', c') al ∧ i ≤ i') := by
        have hA := A.out.1
        rw [show n - j = 0 by omega] at hA
        exact ⟨at_bytes Hzl.out hA, A.out.2⟩
      clear A
      obtain ⟨⟨b0, b1, b2, bf⟩, t0, t1, t2, t3, ⟨x0, x1, x2, xf⟩, y0, y1, y2, y3, tf, yf⟩ := S.out.sm
      have zz := S.out.sm.lt
      clear bf t0 t1 t2 t3 x0 x1 x2 xf y0 y1 y2 y3 tf yf
      go_upto_region 14 with fail
      clear b0 b1 b2 zz
      obtain ⟨⟨b0, b1, b2, bf⟩, t0, t1, t2, t3, ⟨x0, x1, x2, xf⟩, y0, y1, y2, y3, tf, yf⟩ := S.out.sm
      have zz := S.out.sm.lt
      have xf0 := xf 0
      have xf1 := xf 1
      have xf2 := xf 2
      have yf0 := yf 0
      have yf1 := yf 1
      have yf2 := yf 2
      have yf3 := yf 3
      clear bf xf tf yf
      have DN := hideM (fun W hW => S.out.post (Rel := fun r' all' => IAt s zs D k cf 8 (fun c => c.last = b) r' all' ∧ i ≤ r'.1) HFIN.out W hW)
      clear S
      go_region
      go_wp2_with fail
      have DN1 := DN.out _ (.inl rfl)
      unfold wT wR at DN1
      obtain ⟨⟨k0, k1, k2, k3, k4, k5, k6⟩, P1, P2⟩ := DN1
      exact bodyPost_ret (v := .tuple #[.agg #[.slice ao Z cap, .int .i64 ((i' : Nat) : Int), .int .i64 c'], .agg #[.slice aa (List.length al) ca, .int .i64 (D : Nat), .int .i64 (s : Nat), .int .i64 100000]]) (by simp [results, Tryz.results23, go_sem, k0, k1, k2, k3, k4, k5, k6]) rfl (by first | exact P1 | exact P2)
end Go.Proofs.YtlfabilmilkboaaGreatDoor
