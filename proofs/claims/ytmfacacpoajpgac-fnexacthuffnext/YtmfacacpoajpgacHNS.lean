import Derived.Test.YtmfacacpoajpgacHN
import Derived.Test.YtmfacacpoajpgacHCL
namespace Go.Proofs.Ytmfacacpoajpgac
open Go.RowKit
attribute [local go_sem ↓] Go.wp_at_zero Go.wp_at_succ
set_option linter.unusedVariables false

theorem fs_fst (f : Nat → Nat) : ∀ l, fs f l = fst f l
  | 0 => rfl
  | 1 => rfl
  | l + 2 => by rw [fs, fst, fs_fst f (l + 1)]
theorem code_ln (zs : List Int) (i : Nat) : code zs i = if ln zs i = 0 then (0, 0) else (ln zs i, tr (num zs i) (ln zs i)) := by
  unfold code num ln
  rw [fs_fst]
theorem okC_out {zs : List Int} (h : okC zs = true) : okL zs ∧ zs.length ≤ 320 ∧ SS zs 15 ≤ 32768 := by
  simp only [okC, Bool.and_eq_true, decide_eq_true_eq] at h
  obtain ⟨h1, h2⟩ := h
  obtain ⟨h3, h4⟩ := okB_ok h1
  refine ⟨h4, h3, ?_⟩
  rw [SS_kr h4]
  rw [hk, h1, if_pos rfl, hkind] at h2
  by_cases n0 : nz zs = 0
  · have := (none_has zs h4 n0).1
    omega
  · rw [if_neg n0] at h2
    by_cases k0 : 32768 < kr zs
    · rw [if_pos k0] at h2; omega
    · omega

/-- A NextRes in memory. -/
def Res3 (w : World) (p : Nat) (a b c : Int) : Prop :=
  w.cell? ⟨p, 0, none⟩ = some (.int .i64 a) ∧ w.cell? ⟨p, 1, none⟩ = some (.int .i64 b) ∧ w.cell? ⟨p, 2, none⟩ = some (.int .i64 c) ∧
    w.frozen? ⟨p, 0, none⟩ = false ∧ w.frozen? ⟨p, 1, none⟩ = false ∧ w.frozen? ⟨p, 2, none⟩ = false
theorem res3_new (w : World) (a b c : Int) (t : TypeId) : Res3 (w.alloc (.cells #[.int .i64 a, .int .i64 b, .int .i64 c] t)) w.heap.size a b c := by
  simp [Res3, go_sem]
theorem Res3.lt {w : World} {p : Nat} {a b c : Int} (h : Res3 w p a b c) : p < w.heap.size := World.block_lt_of_cell? w _ h.1
theorem Res3.grown {w w' : World} {row : Option Nat} {p : Nat} {a b c : Int} (h : Res3 w p a b c) (hg : w.grownBy w' row) (hne : some p ≠ row) : Res3 w' p a b c := by
  have e := hg.block p h.lt hne
  obtain ⟨h1, h2, h3, f1, f2, f3⟩ := h
  exact ⟨(World.cell?_of_block (w := w) e).trans h1, (World.cell?_of_block (w := w) e).trans h2, (World.cell?_of_block (w := w) e).trans h3,
    (World.frozen?_of_block (w := w) e).trans f1, (World.frozen?_of_block (w := w) e).trans f2, (World.frozen?_of_block (w := w) e).trans f3⟩
theorem Res3.below {w w' : World} {p : Nat} {a b c : Int} (h : Res3 w p a b c) (hb : Below w.heap.size w w') : Res3 w' p a b c := h.grown (grownBy_of_below hb none) (by simp)
theorem res3_set {w : World} {p : Nat} {a b c : Int} (h : Res3 w p a b c) (a' b' c' : Int) :
    Res3 (((w.setCell ⟨p, 0, none⟩ (.int .i64 a')).setCell ⟨p, 1, none⟩ (.int .i64 b')).setCell ⟨p, 2, none⟩ (.int .i64 c')) p a' b' c' ∧
      w.grownBy (((w.setCell ⟨p, 0, none⟩ (.int .i64 a')).setCell ⟨p, 1, none⟩ (.int .i64 b')).setCell ⟨p, 2, none⟩ (.int .i64 c')) (some p) := by
  obtain ⟨c0, c1, c2, f0, f1, f2⟩ := h
  refine ⟨⟨?_, ?_, ?_, ?_, ?_, ?_⟩, ?_⟩
  · rw [World.cell?_setCell_other _ _ _ _ (by simp), World.cell?_setCell_other _ _ _ _ (by simp), World.cell?_setCell_same _ _ _ c0]
  · rw [World.cell?_setCell_other _ _ _ _ (by simp), World.cell?_setCell_same _ _ _ (u := .int .i64 b) (by rw [World.cell?_setCell_other _ _ _ _ (by simp)]; exact c1)]
  · rw [World.cell?_setCell_same _ _ _ (u := .int .i64 c) (by rw [World.cell?_setCell_other _ _ _ _ (by simp), World.cell?_setCell_other _ _ _ _ (by simp)]; exact c2)]
  · simp [World.frozen?_setCell, f0]
  · simp [World.frozen?_setCell, f1]
  · simp [World.frozen?_setCell, f2]
  · exact grownBy_trans (grownBy_trans (grownBy_setCell w ⟨p, 0, none⟩ _) (grownBy_setCell _ ⟨p, 1, none⟩ _)) (grownBy_setCell _ ⟨p, 2, none⟩ _)
/-- Some code behind s begins with the first l bits. -/
def begs (zs : List Int) (b l k : Nat) : Prop := ∃ s, s < k ∧ Coded zs s ∧ l < ln zs s ∧ tr (num zs s) (ln zs s) % 2 ^ l = b % 2 ^ l
theorem Ans.bad {zs : List Int} {b n : Nat} (h : ∀ i, ¬ cov zs i (tr (b % 2 ^ n) 15)) : Ans zs b n 0 0 0 := .inr (.inr ⟨h, rfl, rfl, rfl⟩)

set_option maxRecDepth 100000 in
set_option maxHeartbeats 6400000 in
theorem l3Next_any (zs : List Int) (ao : Option Addr) (cap b n : Nat) (w : World) (hR : Reads w ao zs.length (code zs)) (hok : okC zs = true) (hb : b < 2 ^ 64) (hn : n ≤ 64) :
    Calls Try.prog 45 #[.slice ao zs.length cap, .int .u64 b, .int .i64 n] w fun e w' => (∃ k s l : Nat, e = .returned (.agg #[.int .i64 k, .int .i64 s, .int .i64 l]) ∧ Ans zs b n k s l) ∧ Below w.heap.size w w' := by
  obtain ⟨hoL, h320, hSS⟩ := okC_out hok
  have HOL := hideH hoL
  have HSS := hideH hSS
  have HR := hideH hR
  have hb0 : Below w.heap.size w (w.alloc (.cells #[.int .i64 0, .int .i64 0, .int .i64 0] 33)) := (Below.refl _ _).alloc (Nat.le_refl _) _
  have HB0 := hideH hb0
  have H30 := hideH (res3_new w 0 0 0 33)
  clear hoL hSS hR hb0 hok
  go_enter Try.func45, Try.ntmps45
  go_wp2_with fail
  go_loopw [7] (fun i wr => ∃ l : Nat, l ≤ 15 ∧ l ≤ n + 1 ∧ i = .int .i64 l ∧ Hid (∀ i, cov zs i (tr (b % 2 ^ n) 15) → l ≤ ln zs i) ∧ Hid (l = 0 ∨ begs zs b (l - 1) zs.length) ∧ Res3 wr w.heap.size 0 0 0 ∧ Below w.heap.size w wr) (fun i _ => 16 - (intOf i).toNat)
  case atStart => exact ⟨0, by omega, by omega, rfl, (fun i _ => Nat.zero_le _), (.inl rfl), H30.out, HB0.out⟩
  case round =>
    clear H30 HB0
    obtain ⟨l, hl15, hln1, rfl, HC, HG, h3, hB⟩ := hrel
    by_cases hle : l ≤ n
    · obtain ⟨P, hP⟩ : ∃ P, 2 ^ l = P := ⟨_, rfl⟩
      have hP0 : 0 < P := hP ▸ Nat.pos_of_ne_zero (by simp)
      have hP1 : P ≤ 32768 := hP ▸ Nat.le_trans (Nat.pow_le_pow_right (by decide) hl15) (by decide)
      have HPW := hideH (fun W => l3Pow_any l P (by omega) hP W)
      obtain ⟨Lw, hLw⟩ : ∃ Lw, b % P = Lw := ⟨_, rfl⟩
      have hLwi : ((b : Int) % (P : Int)) = (Lw : Int) := by rw [← hLw]; exact (Int.natCast_emod b P).symm
      have HPE := hideH hP
      have HLE := hideH hLw
      have H3 := hideH h3
      have HBx := hideH hB
      clear hP hLw h3 hB
      go_wp2_with fail
      refine Calls.mono (HPW.out _) ?_
      rintro e w1 ⟨rfl, rfl⟩
      go_wp2_with fail
      rw [hLwi]
      clear hLwi
      go_loopw [9, 10] (fun bg i wy => ∃ (k : Nat) (B : Bool), k ≤ zs.length ∧ i = .int .i64 k ∧ bg = .bool B ∧ Hid (B = true ↔ begs zs b l k) ∧ Hid (∀ s, s < k → Coded zs s → ln zs s = l → ¬ tr (num zs s) (ln zs s) = b % 2 ^ l) ∧ Res3 wy w.heap.size 0 0 0 ∧ Below w.heap.size w wy) (fun _ i _ => zs.length - (intOf i).toNat)
      case atStart =>
        refine ⟨0, false, Nat.zero_le _, rfl, rfl, ?_, (fun s hs => by omega), H3.out, HBx.out⟩
        exact ⟨(fun h => by cases h), (fun ⟨s, hs, _⟩ => by omega)⟩
      case round =>
        clear H3 HBx
        obtain ⟨k, B, hk, rfl, rfl, HBG, HNO, h3, hB⟩ := hrel
        by_cases hlt : k < zs.length
        · obtain ⟨g, rfl, hCd⟩ := HR.out (by omega)
          have hCd2 := hCd.grown (grownBy_of_below hB none) (by simp)
          have c0 := hCd2.at0 k hlt
          have c1 := hCd2.at1 k hlt
          have z2 := hCd2.lt
          have e1 : (code zs k).1 = ln zs k := by rw [code_ln]; split <;> simp_all
          have e2 : ln zs k ≠ 0 → (code zs k).2 = tr (num zs k) (ln zs k) := by intro h; rw [code_ln, if_neg h]
          rw [e1] at c0
          obtain ⟨Y, hY⟩ : ∃ Y, (code zs k).2 = Y := ⟨_, rfl⟩
          obtain ⟨X, hX⟩ : ∃ X, ln zs k = X := ⟨_, rfl⟩
          rw [hX] at c0 e2
          rw [hY] at c1 e2
          have hX15 : X ≤ 15 := by
            by_cases h0 : ln zs k = 0
            · omega
            · have := (Coded.of HOL.out hlt h0).most; omega
          have HXE := hideH hX
          have HYE := hideH e2
          have H3 := hideH (h3.below ((Below.refl _ _).alloc (Nat.le_refl _) (.cells #[.int .i64 X, .int .u64 Y] 62)))
          have HBx := hideH (hB.alloc hB.size (.cells #[.int .i64 X, .int .u64 Y] 62))
          have hkl : (k : Int) < (zs.length : Int) := by omega
          clear hCd hCd2 e1 e2 hY hX h3 hB
          go_upto_region 10 with fail
          have p0 : (wr.alloc (.cells #[.int .i64 X, .int .u64 Y] 62)).cell? ⟨wr.heap.size, 0, none⟩ = some (.int .i64 X) := by simp [go_sem]
          have p1 : (wr.alloc (.cells #[.int .i64 X, .int .u64 Y] 62)).cell? ⟨wr.heap.size, 1, none⟩ = some (.int .u64 Y) := by simp [go_sem]
          clear c0 c1
          generalize wr.alloc (.cells #[.int .i64 X, .int .u64 Y] 62) = w5 at *
          go_cut [46] from 22 to 66 (fun v wx => v = .bool (decide (X = l ∧ 0 < X ∧ Y = Lw)) ∧ wx = w5)
          case first =>
            by_cases hXl : X = l
            · have b1 : ((X : Int) == (l : Int)) = true := by simp; omega
              by_cases h0 : 0 < X
              · have b2 : decide ((0 : Int) < (X : Int)) = true := decide_eq_true (by omega)
                have HD : Hid (((Y : Int) == (Lw : Int)) = decide (X = l ∧ 0 < X ∧ Y = Lw)) := by
                  show _ = _
                  rw [Bool.eq_iff_iff]
                  simp
                  omega
                clear hXl
                go_wp2_with fail
                go_meet
                exact ⟨congrArg Value.bool HD.out, rfl⟩
              · have b2 : decide ((0 : Int) < (X : Int)) = false := decide_eq_false (by omega)
                have HD := hideH (decide_eq_false (p := X = l ∧ 0 < X ∧ Y = Lw) (fun h => h0 h.2.1))
                have h0' : ¬ (0 : Int) < (X : Int) := by omega
                clear hXl
                go_wp2_with fail
                go_meet
                exact ⟨congrArg Value.bool HD.out.symm, rfl⟩
            · have b1 : ((X : Int) == (l : Int)) = false := by simp; omega
              have HD := hideH (decide_eq_false (p := X = l ∧ 0 < X ∧ Y = Lw) (fun h => hXl h.1))
              clear hXl
              go_wp2_with fail
              go_meet
              exact ⟨congrArg Value.bool HD.out.symm, rfl⟩
          case rest =>
            obtain ⟨rfl, hw5⟩ := hcut
            subst hw5
            by_cases hM : X = l ∧ 0 < X ∧ Y = Lw
            · have hMb : decide (X = l ∧ 0 < X ∧ Y = Lw) = true := decide_eq_true hM
              have HA : Hid (Ans zs b n 1 k l) := by
                have hne : ln zs k ≠ 0 := by rw [HXE.out]; omega
                have hcd := Coded.of HOL.out hlt hne
                have hlk : ln zs k = l := by rw [HXE.out]; exact hM.1
                have hc : cov zs k (tr (b % 2 ^ n) 15) := by
                  refine (cov_iff hcd HSS.out (b % 2 ^ n)).1 ?_
                  rw [mod_mod _ _ _ (by rw [hlk]; exact hle), HXE.out, ← HYE.out (by omega), hM.2.2, ← HLE.out, hM.1, HPE.out]
                exact .inl ⟨k, hc, by omega, rfl, rfl, hlk.symm⟩
              rw [hMb]
              obtain ⟨k3, k4⟩ := res3_set H3.out 1 (k : Int) (l : Int)
              obtain ⟨r0, r1, r2, f0, f1, f2⟩ := H3.out
              have hB2 := HBx.out.grown k4 HBx.out.size (by intro q e; simp at e; omega)
              obtain ⟨y0, y1, y2, _⟩ := k3
              clear k4 HC HG hM hMb HBG HNO
              go_wp2_with fail
              exact bodyPost_ret (v := .agg #[.int .i64 1, .int .i64 k, .int .i64 l]) (by simp [results, Try.results45, go_sem, y0, y1, y2]) rfl ⟨⟨1, k, l, rfl, HA.out⟩, hB2⟩
            · have hMb : decide (X = l ∧ 0 < X ∧ Y = Lw) = false := decide_eq_false hM
              have HNO2 : Hid (∀ s, s < k + 1 → Coded zs s → ln zs s = l → ¬ tr (num zs s) (ln zs s) = b % 2 ^ l) := by
                intro s hs hcd hls
                by_cases hsk : s = k
                · subst hsk
                  intro he
                  apply hM
                  have hX : X = l := by rw [← HXE.out]; exact hls
                  have hp := hcd.pos
                  refine ⟨hX, by omega, ?_⟩
                  rw [HYE.out (by omega), ← HXE.out, he, ← HLE.out, HPE.out]
                · exact HNO.out s (by omega) hcd hls
              have HBG2 : Hid ((B || decide (l < X ∧ Y % P = Lw)) = true ↔ begs zs b l (k + 1)) := by
                show _ ↔ _
                rw [Bool.or_eq_true, decide_eq_true_eq, HBG.out]
                constructor
                · rintro (⟨s, h1, h2⟩ | ⟨h1, h2⟩)
                  · exact ⟨s, by omega, h2⟩
                  · have hne : ln zs k ≠ 0 := by rw [HXE.out]; omega
                    refine ⟨k, by omega, Coded.of HOL.out hlt hne, by rw [HXE.out]; exact h1, ?_⟩
                    rw [HXE.out, ← HYE.out (by omega), HPE.out, h2, ← HLE.out]
                · rintro ⟨s, h1, h2, h3, h4⟩
                  by_cases hsk : s = k
                  · subst hsk
                    right
                    have hp := h2.pos
                    rw [HXE.out] at h3
                    refine ⟨h3, ?_⟩
                    rw [HYE.out (by omega), ← HXE.out, ← HPE.out, h4, ← HLE.out, HPE.out]
                  · left
                    exact ⟨s, by omega, h2, h3, h4⟩
              rw [hMb]
              clear hM hMb HBG HNO
              cases B with
              | true =>
                have HV : Hid (true = true ↔ begs zs b l (k + 1)) := by
                  show _ ↔ _
                  rw [← HBG2.out]
                  simp
                go_upto_region 12 with fail
                go_quiet (fail)
                have h36 := H3.out.below (below_drewN' _ _ nq)
                have hB6 := HBx.out.trans (below_drewN' _ _ nq)
                clear H3 HBx HBG2
                go_wp2_with fail
                go_roundw
                case rel => exact ⟨k + 1, true, by omega, by go_num, rfl, HV, HNO2, h36, hB6⟩
                case measure => simp [intOf]; omega
              | false =>
                by_cases hgt : l < X
                · obtain ⟨Z, hZ⟩ : ∃ Z, Y % P = Z := ⟨_, rfl⟩
                  have hZi : ((Y : Int) % (P : Int)) = (Z : Int) := by rw [← hZ]; exact (Int.natCast_emod Y P).symm
                  have HV : Hid (((Z : Int) == (Lw : Int)) = true ↔ begs zs b l (k + 1)) := by
                    show _ ↔ _
                    rw [← HBG2.out, hZ]
                    simp [hgt, Int.ofNat_inj]
                  have b4 : decide ((l : Int) < (X : Int)) = true := decide_eq_true (by omega)
                  have hZ0 : Z < P := by rw [← hZ]; exact Nat.mod_lt _ hP0
                  have hYb : Y < 32768 := by
                    rw [HYE.out (by omega)]
                    exact Nat.lt_of_lt_of_le (tr_lt _ _) (Nat.le_trans (Nat.pow_le_pow_right (by decide) hX15) (by decide))
                  have hPi : ¬ (P : Int) = 0 := by omega
                  have hPn : ¬ P = 0 := by omega
                  have hPb : ((P : Int) == 0) = false := by simp; omega
                  have hPw : IntKind.u64.wrap (P : Int) = (P : Int) := by rw [IntKind.wrap_u64]; omega
                  have hZt : (Y : Int).tmod (P : Int) = (Z : Int) := by rw [Int.tmod_eq_emod_of_nonneg (by omega)]; exact hZi
                  have hZw : IntKind.u64.wrap (Z : Int) = (Z : Int) := by rw [IntKind.wrap_u64]; omega
                  clear hZ HBG2
                  go_upto_region 12 with fail
                  go_region_held3 (fun w' => w'.cell? ⟨wr.heap.size, 0, none⟩ = some (.int .i64 X) ∧ w'.cell? ⟨wr.heap.size, 1, none⟩ = some (.int .u64 Y))
                    (first | (refine ⟨?_, ?_⟩ <;> with_reducible assumption) | (go_keep; done))
                    ((go_at_call 58; refine Calls.mono (HPW.out _) ?_; rintro e w7 ⟨rfl, rfl⟩))
                  have h36 := H3.out.below ((Below.refl _ _).drew)
                  have hB6 := HBx.out.trans (((Below.refl _ _).drew).mono HBx.out.size)
                  clear H3 HBx
                  go_wp2_with fail
                  go_roundw
                  case rel => exact ⟨k + 1, ((Z : Int) == (Lw : Int)), by omega, by go_num, rfl, HV, HNO2, h36, hB6⟩
                  case measure => simp [intOf]; omega
                · have b4 : decide ((l : Int) < (X : Int)) = false := decide_eq_false (by omega)
                  have HV : Hid (false = true ↔ begs zs b l (k + 1)) := by
                    show _ ↔ _
                    rw [← HBG2.out]
                    simp [hgt]
                  clear HBG2
                  go_upto_region 12 with fail
                  go_quiet (fail)
                  have h36 := H3.out.below (below_drewN' _ _ nq)
                  have hB6 := HBx.out.trans (below_drewN' _ _ nq)
                  clear H3 HBx
                  go_wp2_with fail
                  go_roundw
                  case rel => exact ⟨k + 1, false, by omega, by go_num, rfl, HV, HNO2, h36, hB6⟩
                  case measure => simp [intOf]; omega
        · have e : k = zs.length := by omega
          have HBG3 : Hid (B = true ↔ begs zs b l zs.length) := by rw [← e]; exact HBG.out
          have HNO3 : Hid (∀ s, Coded zs s → ln zs s = l → ¬ tr (num zs s) (ln zs s) = b % 2 ^ l) := fun s hs h => HNO.out s (by have := hs.lt; omega) hs h
          have HCN : Hid (∀ i, cov zs i (tr (b % 2 ^ n) 15) → l + 1 ≤ ln zs i) := by
            intro i hi
            have h1 := HC.out i hi
            have h2 : ln zs i ≠ l := fun h => by
              have h3 := beg_of_cov hi HSS.out hle (by omega : l ≤ ln zs i)
              rw [← h, Nat.mod_eq_of_lt (tr_lt _ _)] at h3
              exact HNO3.out i hi.1 h (by rw [h3, h])
            omega
          clear HBG HNO e
          cases B with
          | true =>
            have hbg := HBG3.out.1 rfl
            have hl14 : l + 1 ≤ 15 := by
              obtain ⟨s, _, h1, h2, _⟩ := hbg
              have := h1.most
              omega
            have HG2 : Hid (l + 1 = 0 ∨ begs zs b (l + 1 - 1) zs.length) := .inr hbg
            clear hbg HBG3
            go_wp2_with fail
            go_roundw
            case rel => exact ⟨l + 1, hl14, by omega, by go_num, HCN, HG2, h3, hB⟩
            case measure => simp [intOf]; omega
          | false =>
            have HA : Hid (Ans zs b n 0 0 0) := by
              refine Ans.bad (fun i hi => ?_)
              have h1 := HCN.out i hi
              have h2 := HBG3.out.2 ⟨i, hi.1.lt, hi.1, by omega, beg_of_cov hi HSS.out hle (by omega)⟩
              cases h2
            obtain ⟨k3, k4⟩ := res3_set h3 0 0 0
            obtain ⟨r0, r1, r2, f0, f1, f2⟩ := h3
            have hB2 := hB.grown k4 hB.size (by intro q e; simp at e; omega)
            obtain ⟨y0, y1, y2, _⟩ := k3
            clear k4 HC HG HBG3 HCN
            go_wp2_with fail
            exact bodyPost_ret (v := .agg #[.int .i64 0, .int .i64 0, .int .i64 0]) (by simp [results, Try.results45, go_sem, y0, y1, y2]) rfl ⟨⟨0, 0, 0, rfl, HA.out⟩, hB2⟩
    · have HA : Hid (Ans zs b n 2 0 0) := by
        have hl : l = n + 1 := by omega
        rcases HG.out with h0 | h0
        · omega
        · refine .inr (.inl ?_)
          rw [hl, Nat.add_sub_cancel] at h0
          by_cases hex : ∃ i, cov zs i (tr (b % 2 ^ n) 15)
          · obtain ⟨i, hi⟩ := hex
            have := HC.out i hi
            exact ⟨i, hi, by omega, rfl, rfl, rfl⟩
          · obtain ⟨s, _, hs, h1, h2⟩ := h0
            exact (no_beg HSS.out (by omega) (fun i hi => hex ⟨i, hi⟩) hs h1 h2).elim
      obtain ⟨k3, k4⟩ := res3_set h3 2 0 0
      obtain ⟨r0, r1, r2, f0, f1, f2⟩ := h3
      have hB2 := hB.grown k4 hB.size (by intro q e; simp at e; omega)
      obtain ⟨y0, y1, y2, _⟩ := k3
      clear k4 HC HG
      go_wp2_with fail
      exact bodyPost_ret (v := .agg #[.int .i64 2, .int .i64 0, .int .i64 0]) (by simp [results, Try.results45, go_sem, y0, y1, y2]) rfl ⟨⟨2, 0, 0, rfl, HA.out⟩, hB2⟩

end Go.Proofs.Ytmfacacpoajpgac
