import Derived.Test.YtmfacacpoajpgacHCI
namespace Go.Proofs.Ytmfacacpoajpgac
open Go.RowKit
attribute [local go_sem ↓] Go.wp_at_zero Go.wp_at_succ
set_option linter.unusedVariables false

section
variable {P : Program} (w : World)
/-- append of elements of many cells, which lie anywhere, onto a row of the call's own. -/
theorem wpList_append_cells {ops : Array Oper} {rest : List Oper} {o : Oper} {a : Act} {Q : Exit → Act → World → Prop} (hgd : o.guard = none) (s x : Operand) (t : TypeId)
    (ho : o.op = .call { callee := .builtin .append, args := #[s, x], argTypes := #[t, t] })
    (base : Nat) (e : TypeId) (i : TypeInfo) (z : Value) (size bytes : Nat) (ht : P.underlying t = some (.slice e)) (hi : P.info? e = some i) (hz : i.zero = some z)
    (hsize : i.size = size) (hby : i.bytes = bytes) (hzs : z.cells.size = size) (hsz : 0 < size)
    (v : Value) (n : Nat) (xs : List Value) (hs : a.eval s = v) (hown : w.ownsRow base e size v n xs) (ad : Addr) (m c : Nat) (news : List Value) (hx : a.eval x = .slice (some ad) m c)
    (hl : news.length = m * size) (hnews : ∀ j u, news[j]? = some u → w.cell? (ad.add j) = some u) (h1 : ∀ u ∈ news, u.oneCell' = true)
    (h63 : n + m ≤ maxLen) (hbytes : (n + m) * bytes ≤ 140737488355328) (hbase : base ≤ w.heap.size)
    (h : ∀ v' w', w'.ownsRow base e size v' (n + m) (xs ++ news) → w.grownBy w' v.ownBlock → wpList P ops Q rest (a.put o.dst v') w') : wpList P ops Q (o :: rest) a w := by
  refine wpList_plain hgd fun K hK => ?_
  obtain ⟨v', w', hr, h2, h3, _⟩ := run_append_own_at (P := P) w base t o.type e i z size bytes ht hi hz hsize hby hzs hsz v n xs hown ad m c news hl hnews h1 h63 hbytes hbase
  unfold Oper.wp execOp
  simp only [ho, resolve, invoke, builtin, Sem.run_bind, Sem.run_pure, Result.andThen_ok, List.map_toArray, List.map_cons, List.map_nil, hs, hx, hr]
  exact hK _ _ (h v' w' h2 h3)
end

/-- The cells of k zero codes. -/
def zc : Nat → List Value
  | 0 => []
  | k + 1 => zc k ++ [.int .i64 0, .int .u64 0]
theorem zc_len (k : Nat) : (zc k).length = k * 2 := by
  induction k with
  | zero => rfl
  | succ k ih => simp [zc, ih]; omega
theorem zc_at (k j : Nat) (h : j < k * 2) : (zc k)[j]? = some (if j % 2 = 0 then .int .i64 0 else .int .u64 0) := by
  induction k with
  | zero => omega
  | succ k ih =>
    have hl := zc_len k
    rw [zc]
    by_cases h1 : j < k * 2
    · rw [List.getElem?_append_left (by omega)]; exact ih h1
    · rw [List.getElem?_append_right (by omega), hl]
      have h2 : j = k * 2 ∨ j = k * 2 + 1 := by omega
      rcases h2 with rfl | rfl
      · rw [Nat.sub_self, if_pos (by omega)]; rfl
      · rw [show k * 2 + 1 - k * 2 = 1 by omega, if_neg (by omega)]; rfl

/-- What the outer loop has made behind the lengths below l + 1, and of that length the first i. -/
def part (zs : List Int) (l i m : Nat) : Nat × Nat := if (zs.getD m 0).toNat < l ∨ ((zs.getD m 0).toNat = l ∧ m < i) then code zs m else (0, 0)
theorem code_zero {zs : List Int} {m : Nat} (h : (zs.getD m 0).toNat = 0) : code zs m = (0, 0) := by rw [code, if_pos h]
/-- The code behind all symbols of length j. -/
def endc (zs : List Int) (j : Nat) : Nat := if j = 0 then 0 else fst (cnt zs) j + cnt zs j
theorem endc_next (zs : List Int) (j : Nat) : 2 * endc zs j = fst (cnt zs) (j + 1) := by
  unfold endc
  cases j with
  | zero => rfl
  | succ j => rw [if_neg (by omega)]; rfl

theorem endc_le (zs : List Int) (j : Nat) (hj : j ≤ 15) (hn : zs.length ≤ 320) : endc zs j ≤ 20971840 := by
  unfold endc
  split
  · omega
  · have h1 := fst_le (cnt zs) (fun i => Nat.le_trans (cnt_le _ _) hn) j
    have h2 : cnt zs j ≤ 320 := Nat.le_trans (cnt_le _ _) hn
    have h3 : 2 ^ j ≤ 32768 := Nat.le_trans (Nat.pow_le_pow_right (by decide) hj) (by decide)
    omega

set_option maxRecDepth 100000 in
set_option maxHeartbeats 6400000 in
theorem scodes_any (ao : Option Addr) (cap : Nat) (zs : List Int) (w : World) (hr : Row64 w ao zs) (hn : zs.length ≤ 1048576) :
    Calls Try.prog 9 #[.slice ao zs.length cap] w fun e w' => ResH w.heap.size w' e zs ∧ Below w.heap.size w w' := by
  obtain ⟨i0, hi, hz0, hz1, hz2⟩ := info_parts Try.info_hc
  have hb0 : Below w.heap.size w (w.alloc (.cells #[] 62)) := (Below.refl _ _).alloc (Nat.le_refl _) _
  have HS := hideH (skind_any ao cap zs _ (hr.below hb0) hn)
  have HR := hideH hr
  have HB0 := hideH hb0
  have ho0 : (w.alloc (.cells #[] 62)).ownsRow w.heap.size 62 2 (.slice (some ⟨w.heap.size, 0, none⟩) 0 0) 0 [] := World.ownsRow_lit w #[] 0 (Nat.le_refl _) (by unfold maxLen; omega) rfl
  have HO0 := hideH ho0
  clear hr hb0 ho0
  go_enter Try.func9, Try.ntmps9
  go_wp2_with fail
  refine Calls.mono HS.out ?_
  rintro e w1 ⟨rfl, q, rfl⟩
  have HB1 := hideH (HB0.out.trans (below_drewN' _ _ q))
  have HO1 : Hid (((w.alloc (.cells #[] 62)).drewN q).ownsRow w.heap.size 62 2 (.slice (some ⟨w.heap.size, 0, none⟩) 0 0) 0 []) := HO0.out
  generalize (w.alloc (.cells #[] 62)).drewN q = w1 at *
  clear HS HB0 HO0
  by_cases hok : okB zs = true
  · have hk0 : ¬ hk zs = 0 := by
      rw [hk, hok, if_pos rfl, hkind]
      repeat' split
      all_goals omega
    have hk0b : (hk zs == 0) = false := by simp [hk0]
    by_cases hk2 : hk zs = 2
    · have HOC : Hid (okC zs = false) := by show _ = _; simp [okC, hk2]
      have hk2b : (hk zs == 2) = true := by simp [hk2]
      clear hk2 hk0
      go_wp2_with fail
      go_ret
      exact ⟨ResH.no _ _ _ _ _ HOC.out, HB1.out⟩
    · have HOC : Hid (okC zs = true) := by show _ = _; simp [okC, hok, hk2]
      have hk2b : (hk zs == 2) = false := by simp [hk2]
      have HOL := hideH (okB_ok hok).2
      have hn320 := (okB_ok hok).1
      clear hk2 hk0
      go_wp2_with fail
      go_loopw [3, 5] (fun v i wr => ∃ (k g c : Nat), k ≤ zs.length ∧ i = .int .i64 k ∧ v = .slice (some ⟨g, 0, none⟩) k c ∧ wr.ownsRow w.heap.size 62 2 (.slice (some ⟨g, 0, none⟩) k c) k (zc k) ∧ Below w.heap.size w wr) (fun _ i _ => zs.length - (intOf i).toNat)
      case atStart => exact ⟨0, w.heap.size, 0, Nat.zero_le _, rfl, rfl, HO1.out, HB1.out⟩
      case round =>
        clear HO1 HB1
        obtain ⟨k, g, c, hk, rfl, rfl, ho, hB⟩ := hrel
        by_cases hlt : k < zs.length
        · have hball : Below wr.heap.size wr (wr.alloc (.cells #[.int .i64 0, .int .u64 0] 62)) := (Below.refl _ _).alloc (Nat.le_refl _) _
          have hgw : g < wr.heap.size := (Codes.made ho (zc_at k)).lt
          have HO2 := hideH (World.ownsRow.kept ho (grownBy_of_below hball none) (.inr (by simp [Value.ownBlock])))
          have HN : Hid (∀ j u, ([Value.int .i64 0, Value.int .u64 0] : List Value)[j]? = some u → (wr.alloc (.cells #[.int .i64 0, .int .u64 0] 62)).cell? ((⟨wr.heap.size, 0, none⟩ : Addr).add j) = some u) := by
            intro j u hu
            have hj : j = 0 ∨ j = 1 := by
              have := (List.getElem?_eq_some_iff.1 hu).1
              simp at this; omega
            rw [Addr.add_lit]
            rcases hj with rfl | rfl
            · simp at hu; subst hu; simp [go_sem]
            · simp at hu; subst hu; simp [go_sem]
          have HB2 := hideH (hB.alloc hB.size (.cells #[.int .i64 0, .int .u64 0] 62))
          have hbw := hB.size
          have hgB : w.heap.size ≤ g := by
            rcases ho.2 with ⟨h', _⟩ | ⟨g', cap', cur, h', hb, _⟩
            · simp at h'
            · simp only [Value.slice.injEq, Option.some.injEq, Addr.mk.injEq, and_true, true_and] at h'
              obtain ⟨rfl, rfl⟩ := h'
              exact hb
          clear hball ho hB
          go_wp2_with (at_builtin; refine wpList_append_cells _ rfl _ _ 23 rfl w.heap.size 62 i0 (.agg #[.int .i64 0, .int .u64 0]) 2 16 Try.underlying23 hi hz0 hz1 hz2 rfl (by decide) (.slice (some ⟨g, 0, none⟩) k c) k (zc k) rfl HO2.out ⟨wr.heap.size, 0, none⟩ 1 1 [.int .i64 0, .int .u64 0] rfl rfl HN.out (by intro u hu; simp at hu; rcases hu with rfl | rfl <;> rfl) (by unfold maxLen; omega) (by omega) (by simp; omega) ?_)
          intro v4 w4 hown hgrow
          have hown' : w4.ownsRow w.heap.size 62 2 v4 (k + 1) (zc (k + 1)) := hown
          obtain ⟨g4, c4, e4⟩ : ∃ g4 c4, v4 = .slice (some ⟨g4, 0, none⟩) (k + 1) c4 := by
            rcases hown'.2 with ⟨_, h0⟩ | ⟨g', cap', cur, h', _⟩
            · omega
            · exact ⟨g', cap', h'⟩
          rw [e4] at hown' ⊢
          have hb4 := HB2.out.grown hgrow HB2.out.size (by intro t e; simp [Value.ownBlock] at e; omega)
          clear hown hgrow e4 HO2 HN HB2
          go_wp2_with fail
          go_roundw
          case rel => exact ⟨k + 1, g4, c4, by omega, by go_num, by go_num, hown', hb4⟩
          case measure => simp [intOf]; omega
        · have e : k = zs.length := by omega
          subst e
          have hC0 := (Codes.made ho (zc_at zs.length)).congr (G := part zs 1 0) (fun m _ => by
            unfold part
            split
            · rename_i h; rw [code_zero (by omega)]
            · rfl)
          have hgB : w.heap.size ≤ g := by
            rcases ho.2 with ⟨h', _⟩ | ⟨g', cap', cur, h', hb, _⟩
            · simp at h'
            · simp only [Value.slice.injEq, Option.some.injEq, Addr.mk.injEq, and_true, true_and] at h'
              obtain ⟨rfl, rfl⟩ := h'
              exact hb
          have HCx := hideH hC0
          have HBx := hideH hB
          clear ho hC0 hB
          go_wp2_with fail
          go_loopw [6, 7] (fun cd l wx => ∃ (j E : Nat), j ≤ 15 ∧ l = .int .i64 ((j + 1 : Nat) : Int) ∧ cd = .int .i64 E ∧ Hid (E = endc zs j) ∧ Codes wx g zs.length (part zs (j + 1) 0) ∧ Below w.heap.size w wx) (fun _ l _ => 16 - (intOf l).toNat)
          case atStart => exact ⟨0, 0, by omega, rfl, rfl, (rfl : 0 = endc zs 0), HCx.out, HBx.out⟩
          case round =>
            clear HCx HBx
            obtain ⟨j, E, hj, rfl, rfl, HE, hCd, hB⟩ := hrel
            by_cases hjl : j < 15
            · have hE1 : E ≤ 20971840 := by rw [HE.out]; exact endc_le zs j hj hn320
              obtain ⟨lv, hlv⟩ : ∃ lv, j + 1 = lv := ⟨_, rfl⟩
              have hE2 : 2 * E = fst (cnt zs) lv := by rw [HE.out, endc_next, hlv]
              have hlvi : ((j + 1 : Nat) : Int) = (lv : Int) := by omega
              rw [hlvi]
              rw [hlv] at hCd
              have HLV := hideH hlv
              have HE2 := hideH hE2
              have hlv0 : 1 ≤ lv := by omega
              have hlv1 : lv ≤ 15 := by omega
              have dlv : decide ((lv : Int) ≤ 15) = true := decide_eq_true (by omega)
              have HCx := hideH hCd
              have HBx := hideH hB
              clear hlvi hlv hE2 hCd hB
              go_wp2_with fail
              go_loopw [6, 8] (fun cd i wy => ∃ (k X : Nat), k ≤ zs.length ∧ i = .int .i64 k ∧ cd = .int .i64 X ∧ Hid (X = fst (cnt zs) lv + cnt (zs.take k) lv) ∧ Codes wy g zs.length (part zs lv k) ∧ Below w.heap.size w wy) (fun _ i _ => zs.length - (intOf i).toNat)
              case atStart => exact ⟨0, 2 * E, Nat.zero_le _, rfl, by go_num, (by rw [HE2.out]; rfl : 2 * E = fst (cnt zs) lv + cnt (zs.take 0) lv), HCx.out, HBx.out⟩
              case round =>
                clear HCx HBx
                obtain ⟨k, X, hk, rfl, rfl, HX, hCd, hB⟩ := hrel
                have hX1 : X ≤ 20971840 := by
                  have h1 := nx_le zs k lv hlv1 hn320
                  rw [nx, if_neg (by omega), ← HX.out] at h1
                  exact h1
                by_cases hlt : k < zs.length
                · obtain ⟨b, off, rfl, hc⟩ := HR.out.at hlt
                  have hb : b < w.heap.size := World.block_lt_of_cell? w _ (hc k hlt)
                  have hcx : wr.cell? ⟨b, off + k, none⟩ = some (.int .i64 (zs.getD k 0)) := (hB.cell (by exact hb)).trans (hc k hlt)
                  have hgd : zs[k] = zs.getD k 0 := by simp [List.getD, hlt]
                  have hx := HOL.out (zs[k]) (List.getElem_mem hlt)
                  rw [hgd] at hx
                  obtain ⟨l, hl⟩ : ∃ l : Nat, zs.getD k 0 = l := ⟨(zs.getD k 0).toNat, by omega⟩
                  have hln : (zs.getD k 0).toNat = l := by rw [hl]; rfl
                  have hcnt : cnt (zs.take (k + 1)) lv = cnt (zs.take k) lv + if l = lv then 1 else 0 := by
                    rw [take_snoc zs k hlt, cnt_app, hl]
                    simp only [Int.ofNat_inj]
                  have HCNT := hideH hcnt
                  have HLN := hideH hln
                  rw [hl] at hcx hx
                  clear hc hgd hl hcnt hln
                  by_cases hll : l = lv
                  · rw [hll] at hcx
                    have hLN2 := HLN.out
                    rw [hll] at hLN2
                    have hCN2 := HCNT.out
                    rw [if_pos hll] at hCN2
                    clear HLN HCNT hll hx l
                    have HLN := hideH hLN2
                    have HCNT := hideH hCN2
                    clear hLN2 hCN2
                    have HT := hideH (fun W => l3Turn_any X lv (by omega) hlv1 W)
                    obtain ⟨hC2, hg2⟩ := hCd.set hlt lv (tr X lv)
                    have hC3 := hC2.congr (G := part zs lv (k + 1)) (fun m _ => by
                      unfold part
                      by_cases h1 : m = k
                      · subst h1
                        rw [if_pos rfl, if_pos (by rw [HLN.out]; omega), code, HLN.out, if_neg (by omega), ← HX.out]
                      · rw [if_neg h1]
                        by_cases h2 : (zs.getD m 0).toNat < lv ∨ ((zs.getD m 0).toNat = lv ∧ m < k)
                        · rw [if_pos h2, if_pos (by omega)]
                        · rw [if_neg h2, if_neg (by omega)])
                    have hB2 := hB.grown hg2 hB.size (by intro t e; simp at e; omega)
                    have HX2 : Hid (X + 1 = fst (cnt zs) lv + cnt (zs.take (k + 1)) lv) := by show _ = _; rw [HCNT.out, HX.out]; omega
                    have c0 := hCd.at0 k hlt
                    have c1 := hCd.at1 k hlt
                    have f0 := hCd.free (k * 2)
                    have f1 := hCd.free (k * 2 + 1)
                    obtain ⟨Y, hY⟩ : ∃ Y, tr X lv = Y := ⟨_, rfl⟩
                    rw [hY] at HT hC3 hB2
                    have HC3 := hideH hC3
                    have HB2 := hideH hB2
                    have hkl : (k : Int) < (zs.length : Int) := by omega
                    have hbe : ((lv : Int) == (lv : Int)) = true := by simp
                    generalize (part zs lv k k).1 = o0 at *
                    generalize (part zs lv k k).2 = o1 at *
                    clear hC2 hg2 hC3 hB2 hCd hB HX HCNT HLN hY
                    go_wp2_with fail
                    refine Calls.mono (HT.out _) ?_
                    rintro e w7 ⟨rfl, rfl⟩
                    go_wp2_with fail
                    go_roundw
                    case rel => exact ⟨k + 1, X + 1, by omega, by go_num, by go_num, HX2, HC3.out, HB2.out⟩
                    case measure => simp [intOf]; omega
                  · have hC3 := hCd.congr (G := part zs lv (k + 1)) (fun m _ => by
                      unfold part
                      by_cases h2 : (zs.getD m 0).toNat < lv ∨ ((zs.getD m 0).toNat = lv ∧ m < k)
                      · rw [if_pos h2, if_pos (by omega)]
                      · rw [if_neg h2, if_neg]
                        intro h3
                        rcases h3 with h3 | ⟨h3, h4⟩
                        · exact h2 (.inl h3)
                        · have : m = k := by
                            have : ¬ m < k := fun h5 => h2 (.inr ⟨h3, h5⟩)
                            omega
                          rw [this, HLN.out] at h3
                          exact hll h3)
                    have HX2 : Hid (X = fst (cnt zs) lv + cnt (zs.take (k + 1)) lv) := by show _ = _; rw [HCNT.out, if_neg hll]; exact HX.out
                    have hbe : ((l : Int) == (lv : Int)) = false := by simp; omega
                    have HC3 := hideH hC3
                    have HB2 := hideH hB
                    clear hC3 hCd hB HX HCNT HLN
                    go_wp2_with fail
                    go_roundw
                    case rel => exact ⟨k + 1, X, by omega, by go_num, rfl, HX2, HC3.out, HB2.out⟩
                    case measure => simp [intOf]; omega
                · have e : k = zs.length := by omega
                  have hC3 := hCd.congr (G := part zs (j + 1 + 1) 0) (fun m hm => by
                    have := HLV.out
                    unfold part
                    by_cases h2 : (zs.getD m 0).toNat < lv ∨ ((zs.getD m 0).toNat = lv ∧ m < k)
                    · rw [if_pos h2, if_pos (by omega)]
                    · rw [if_neg h2, if_neg (by omega)])
                  have HE3 : Hid (X = endc zs (j + 1)) := by
                    show _ = _
                    rw [HLV.out, endc, if_neg (by omega), HX.out, e, List.take_length]
                  have HC3 := hideH hC3
                  have HB3 := hideH hB
                  have hlj : lv = j + 1 := HLV.out.symm
                  have HLJ := hideH hlj
                  clear hC3 hCd hB HX hlj
                  go_wp2_with fail
                  go_roundw
                  case rel => exact ⟨j + 1, X, by omega, by rw [HLJ.out]; go_num, rfl, HE3, HC3.out, HB3.out⟩
                  case measure => rw [HLJ.out]; simp [intOf]; omega
            · have e : j = 15 := by omega
              subst e
              have hfin := hCd.congr (G := code zs) (fun m hm => by
                have h1 := HOL.out (zs[m]) (List.getElem_mem hm)
                have hgd : zs[m] = zs.getD m 0 := by simp [List.getD, hm]
                rw [hgd] at h1
                unfold part
                rw [if_pos (by omega)])
              go_wp2_with fail
              go_ret
              exact ⟨ResH.yes _ _ _ _ _ HOC.out hgB hfin, hB⟩
  · have hok : okB zs = false := by simpa using hok
    have HOC : Hid (okC zs = false) := by show _ = _; simp [okC, hok]
    have hk0 : hk zs = 0 := by rw [hk, hok]; rfl
    have hk0b : (hk zs == 0) = true := by simp [hk0]
    clear hk0
    go_wp2_with fail
    go_ret
    exact ⟨ResH.no _ _ _ _ _ HOC.out, HB1.out⟩

end Go.Proofs.Ytmfacacpoajpgac
