import Derived.BigRegion
import Derived.Test.YtboniidgoepdcaaGreatDoorMAB
import Derived.Test.YtboniidgoepdcaaGreatDoorMAI
import Derived.Test.YtboniidgoepdcaaGreatDoorMBU
import Derived.Test.YtboniidgoepdcaaGreatDoorMBX
import Derived.Test.YtboniidgoepdcaaGreatDoorMBY
namespace Go.Proofs.YtboniidgoepdcaaGreatDoor
open Go.RowKit
attribute [local go_sem ↓] Go.wp_at_zero Go.wp_at_succ
set_option linter.unusedVariables false

theorem IEnds.detL {s : Nat} {zs : List Int} {c cf cf' : IC} {k k' : Int} (h : IEnds s zs c k cf) (h' : IEnds s zs c k' cf') : k = k' ∧ cf = cf' := by
  obtain ⟨n, hn⟩ := h
  induction n generalizing c with
  | zero => exact hn.elim
  | succ n ih =>
    rcases hn with ⟨h1, rfl, rfl⟩ | ⟨h1, hs⟩ | ⟨h1, c', hs, h3⟩
    · rcases h'.cut with ⟨_, rfl, rfl⟩ | ⟨h2, _⟩ | ⟨h2, _⟩
      · exact ⟨rfl, rfl⟩
      · exact absurd h2 h1
      · exact absurd h2 h1
    · obtain ⟨e1, e2⟩ := h'.stop h1 hs
      exact ⟨e1.symm, e2.symm⟩
    · exact ih (h'.step h1 hs) h3
theorem OwnsB.lower3 {e B : Nat} {w : World} {ao : Option Addr} {cap : Nat} {zs : List Int} (h : OwnsB e B w ao cap zs) : ∀ g, blk ao = some g → g < w.heap.size := by
  intro g e
  cases ao with
  | none => cases e
  | some ad =>
    have := (h.mine.lies ad rfl).2.1
    simp [blk] at e
    omega
/-- What Inflate answers to it. -/
def LgRes (n : Nat) (K : Int) (OUT : List Int) (N : Int) : Prop :=
  (100000 < 1 + 258 * n → K = 6 ∧ OUT.length = 99847) ∧ (1 + 258 * n ≤ 100000 → K = 1 ∧ OUT = List.replicate (1 + 258 * n) 7 ∧ N = (((lgW n).length : Nat) : Int))
theorem lg_inflate (n : Nat) (hn : n < 400) (gb ge : Nat) (W : World) (zs : List Int) (hzs : zs = pk (lgW n)) (hr : Row W (some ⟨gb, 0, none⟩) zs) (he : ge < W.heap.size) (hG : Glob W) :
    Calls Tryz.prog 9 #[.slice (some ⟨gb, 0, none⟩) zs.length zs.length, .int .i64 1, .slice (some ⟨ge, 0, none⟩) 0 0] W fun e w' => ∃ K OUT N, LgRes n K OUT N ∧ InfIs K OUT N e W w' := by
  subst hzs
  have hlen : (pk (lgW n)).length ≤ 65536 := by rw [pk_len, lgW_len]; omega
  refine Calls.mono (iinflate_any (some ⟨gb, 0, none⟩) (some ⟨ge, 0, none⟩) _ 0 (pk (lgW n)) [] 1 W hr (fun e => by cases e) (pk_octets _ (lgW_bin n)) hlen (by decide) (by decide) (Row.nil _ _) (Nat.le_refl _) (by unfold maxLen; omega) (fun ad e => by cases e; exact he) hG) ?_
  rintro e w' ⟨k', cf', hE', h⟩
  obtain ⟨k, cf, hE, hL⟩ := lg_all n
  obtain ⟨rfl, rfl⟩ := hE.detL hE'
  refine ⟨k, cf.out, iRes k cf, ⟨hL.1, fun h1 => ?_⟩, h⟩
  obtain ⟨g1, g2, g3⟩ := hL.2 h1
  refine ⟨g1, g2, ?_⟩
  unfold iRes
  rw [if_pos g1, g3]
theorem lawLg_big (co : Option Addr) (n cc : Nat) (w : World) (hn : n ≤ 9223372036854775807) (hbig : 1048576 < n) :
    Calls Tryz.prog 3 #[.slice co n cc] w fun e w' => e = .returned (.bool true) ∧ Below w.heap.size w w' := by
  go_enter Tryz.func3, Tryz.ntmps3
  go_wp2_with fail
  go_ret
  exact ⟨rfl, Below.refl _ _⟩
set_option maxRecDepth 100000 in
set_option maxHeartbeats 25600000 in
theorem lawLg (co : Option Addr) (cc : Nat) (cs : List Int) (w : World) (hr : Row w co cs) (hoct : Octets cs) (hn : cs.length ≤ 1048576) (hG : Glob w) :
    Calls Tryz.prog 3 #[.slice co cs.length cc] w fun e w' => e = .returned (.bool true) ∧ Below w.heap.size w w' := by
  obtain ⟨i0, hi, hz0, hz1, hz2⟩ := info_parts Tryz.info_u8
  have HG := hideM hG
  have hGs := hG.sz
  have AT0 := hideM (lwAt_any co cc cs 0 w hr hoct (by omega))
  have AT1 := hideM (lwAt_any co cc cs 1 w hr hoct (by omega))
  clear hr hoct hG
  go_enter Tryz.func3, Tryz.ntmps3
  go_wp2_with fail
  refine Calls.mono AT0.out ?_
  rintro e w0 ⟨⟨x, rfl, hx⟩, hw0⟩
  obtain rfl := hw0.symm
  go_wp2_with fail
  refine Calls.mono AT1.out ?_
  rintro e w0 ⟨⟨y, rfl, hy⟩, hw0⟩
  obtain rfl := hw0.symm
  obtain ⟨n, hnd⟩ : ∃ n, (256 * x + y) % 400 = n := ⟨_, rfl⟩
  have hn4 : n < 400 := by omega
  have hni : (256 * (x : Int) + (y : Int)).tmod 400 = (n : Int) := by rw [Int.tmod_eq_emod_of_nonneg (by omega)]; omega
  clear hnd AT0 AT1
  have O := hideM (own_three w w.heap.size (Nat.le_refl _))
  have L : Hid (Below w.heap.size w (w.alloc (.cells #[.int .u8 1, .int .u8 1, .int .u8 0] 5))) := (Below.refl _ _).alloc (Nat.le_refl _) _
  go_upto_region 5 with fail
  clear hni hx hy
  generalize w.alloc (.cells #[.int .u8 1, .int .u8 1, .int .u8 0] 5) = W0 at *
  go_wp2_with fail
  refine Calls.mono (lwFixed_any _) ?_
  rintro e wA ⟨gF, cF, rfl, hrF, hbA⟩
  have HC := hideM (scodes_any (some ⟨gF, 0, none⟩) cF F288 wA hrF (by rw [F288_len]; decide))
  have OA := hideM (O.out.below hbA)
  have LA := hideM (L.out.trans (hbA.mono L.out.size))
  clear hrF hbA O L
  go_wp2_with fail
  refine Calls.mono HC.out ?_
  rintro e wB ⟨⟨aC, cC, rfl, hRC⟩, hbB⟩
  obtain ⟨gC, rfl, hgB, hCd⟩ := hRC (by rw [F288_nC]; decide)
  have hn288 : 288 ≤ nC F288 := by rw [F288_nC]; exact Nat.le_refl _
  have x0 : wB.cell? ⟨gC, 14, none⟩ = some (.int .i64 ((code F288 7).1 : Nat)) := hCd.at0 7 (by omega)
  have x1 : wB.cell? ⟨gC, 15, none⟩ = some (.int .u64 ((code F288 7).2 : Nat)) := hCd.at1 7 (by omega)
  have hgC := hCd.lt
  have OB := hideM (OA.out.below hbB)
  have LB := hideM (LA.out.trans (hbB.mono LA.out.size))
  clear hRC hCd hgB hbB OA LA HC
  generalize nC F288 = nN at *
  have hX9 := code_len 7
  have hY64 := code_bits 7
  have HBITS : Hid (lgH = [1, 1, 0] ++ bitsOf (code F288 7).2 (code F288 7).1) := rfl
  generalize (code F288 7).1 = X at *
  generalize (code F288 7).2 = Y at *
  have hZn : (7 : Int) < (nN : Int) := by omega
  have HP := hideM (lwPut_any w.heap.size (some ⟨w.heap.size, 0, none⟩) 3 Y X ([1, 1, 0]) wB OB.out LB.out.size (by omega) hY64 (by decide))
  rw [← HBITS.out] at HP
  clear hX9 hY64 HBITS OB
  go_wp2_with fail
  clear x0 x1 hZn hn288 hgC
  refine Calls.mono HP.out ?_
  rintro e w1 ⟨a1, c1, rfl, ho1, hb1⟩
  have O := hideM ho1
  have L := hideM (LB.out.trans hb1)
  clear ho1 hb1 HP LB
  obtain ⟨Z, hZ⟩ : ∃ Z, ib lgH = Z := ⟨_, rfl⟩
  have hZl : Z.length ≤ 6000 := by rw [← hZ, ib_len, lgH_len]; decide
  rw [hZ] at O ⊢
  have HZ : Hid (Z = ib (lgH ++ lgC 0)) := by show _ = _; rw [← hZ]; simp [lgC]
  clear hZ
  go_upto_region 7 with fail
  go_loopw [4, 5] (fun v q wr => ∃ (j : Nat) (a : Option Addr) (c : Nat) (Z : List Int), j ≤ n ∧ q = .int .i64 (j : Nat) ∧ v = .slice a Z.length c ∧ Z.length ≤ 6000 ∧ Hid (Z = ib (lgH ++ lgC j)) ∧ Hid (OwnsB 5 w.heap.size wr a c Z) ∧ Hid (Below w.heap.size w wr)) (fun _ q _ => n - (intOf q).toNat)
  case atStart => exact ⟨0, a1, c1, Z, Nat.zero_le _, rfl, rfl, hZl, HZ, O, L⟩
  case round =>
    clear O L HZ hZl
    obtain ⟨j, a, c, Z, hj, rfl, rfl, hZl, HZ, O, L⟩ := hrel
    by_cases hjn : j < n
    · skip
      go_wp2_with fail
      refine Calls.mono (lwFixed_any _) ?_
      rintro e wA ⟨gF, cF, rfl, hrF, hbA⟩
      have HC := hideM (scodes_any (some ⟨gF, 0, none⟩) cF F288 wA hrF (by rw [F288_len]; decide))
      have OA := hideM (O.out.below hbA)
      have LA := hideM (L.out.trans (hbA.mono L.out.size))
      clear hrF hbA O L
      go_wp2_with fail
      refine Calls.mono HC.out ?_
      rintro e wB ⟨⟨aC, cC, rfl, hRC⟩, hbB⟩
      obtain ⟨gC, rfl, hgB, hCd⟩ := hRC (by rw [F288_nC]; decide)
      have hn288 : 288 ≤ nC F288 := by rw [F288_nC]; exact Nat.le_refl _
      have x0 : wB.cell? ⟨gC, 570, none⟩ = some (.int .i64 ((code F288 285).1 : Nat)) := hCd.at0 285 (by omega)
      have x1 : wB.cell? ⟨gC, 571, none⟩ = some (.int .u64 ((code F288 285).2 : Nat)) := hCd.at1 285 (by omega)
      have hgC := hCd.lt
      have OB := hideM (OA.out.below hbB)
      have LB := hideM (LA.out.trans (hbB.mono LA.out.size))
      clear hRC hCd hgB hbB OA LA HC
      generalize nC F288 = nN at *
      have hX9 := code_len 285
      have hY64 := code_bits 285
      have HBITS : Hid (lgH ++ lgC j ++ cbits 285 = lgH ++ lgC j ++ bitsOf (code F288 285).2 (code F288 285).1) := rfl
      generalize (code F288 285).1 = X at *
      generalize (code F288 285).2 = Y at *
      have hZn : (285 : Int) < (nN : Int) := by omega
      have HP := hideM (lwPut_any w.heap.size a c Y X (lgH ++ lgC j) wB (by have h := OB.out; rw [HZ.out] at h; exact h) LB.out.size (by omega) hY64 (by rw [List.length_append, lgH_len, lgC_len]; omega))
      rw [← HZ.out, ← HBITS.out] at HP
      clear hX9 hY64 HBITS OB HZ
      go_wp2_with fail
      clear x0 x1 hZn hn288 hgC
      refine Calls.mono HP.out ?_
      rintro e w1 ⟨a1, c1, rfl, ho1, hb1⟩
      have O := hideM ho1
      have L := hideM (LB.out.trans hb1)
      clear ho1 hb1 HP LB
      obtain ⟨Z1, hZ1⟩ : ∃ Z1, ib (lgH ++ lgC j ++ cbits 285) = Z1 := ⟨_, rfl⟩
      have hZ1l : Z1.length ≤ 5900 := by rw [← hZ1, ib_len, List.length_append, List.length_append, lgH_len, lgC_len, cbits_cb coded_285, bitsOf_len, ln_285]; omega
      rw [hZ1] at O ⊢
      have HN : Hid (Z1 ++ [0, 0, 0, 0, 0] = ib (lgH ++ lgC (j + 1))) := by
        show _ = _
        rw [← hZ1, lgC, lgP, ← List.append_assoc, ← List.append_assoc, ib_app (lgH ++ lgC j ++ cbits 285)]
        rfl
      have ba : Below w1.heap.size w1 (w1.alloc (.cells #[.int .u8 0, .int .u8 0, .int .u8 0, .int .u8 0, .int .u8 0] 5)) := (Below.refl _ _).alloc (Nat.le_refl _) _
      have OA := hideM (O.out.below ba)
      have LA := hideM (L.out.trans (ba.mono L.out.size))
      have RA := hideM (rowZ5 w1 5)
      have hsz := L.out.size
      have HBA := hideM (OwnsB.based O.out)
      clear ba hZ1
      go_wp2_with (at_builtin; refine wpList_append_row _ rfl _ _ 22 rfl w.heap.size 5 i0 (.int .u8 0) 1 Tryz.underlying22 hi hz0 hz1 hz2 rfl (.slice a1 Z1.length c1) Z1.length (Z1.map (Value.int .u8)) rfl OA.out (some ⟨w1.heap.size, 0, none⟩) 5 [0, 0, 0, 0, 0] rfl RA.out (fun e => by cases e) (by unfold maxLen; simp; omega) (by simp; omega) (by simp; omega) ?_)
      intro v' w2 hown hgrow hat
      have hown2 : w2.ownsRow w.heap.size 5 1 v' (Z1.length + 5) ((Z1 ++ [0, 0, 0, 0, 0]).map (Value.int .u8)) := by
        rw [List.map_append]
        exact hown
      obtain ⟨a2, c2, rfl, ho2⟩ := OwnsB.of hown2
      rw [blk_own] at hgrow
      have O2 := hideM ho2
      have L2 := hideM (LA.out.grown hgrow (by simp; omega) (fun q e => HBA.out q e))
      have hl2 : (Z1 ++ [0, 0, 0, 0, 0]).length ≤ 6000 := by rw [List.length_append]; simp; omega
      generalize Z1 ++ [0, 0, 0, 0, 0] = Z2 at *
      clear hown hown2 hgrow hat ho2 OA LA RA HBA O L
      go_wp2_with fail
      exact ⟨⟨j + 1, a2, c2, Z2, by omega, by go_num, rfl, hl2, HN, O2, L2⟩, by simp [intOf]; omega⟩
    · have e : j = n := by omega
      subst e
      clear hj
      go_wp2_with fail
      refine Calls.mono (lwFixed_any _) ?_
      rintro e wA ⟨gF, cF, rfl, hrF, hbA⟩
      have HC := hideM (scodes_any (some ⟨gF, 0, none⟩) cF F288 wA hrF (by rw [F288_len]; decide))
      have OA := hideM (O.out.below hbA)
      have LA := hideM (L.out.trans (hbA.mono L.out.size))
      clear hrF hbA O L
      go_wp2_with fail
      refine Calls.mono HC.out ?_
      rintro e wB ⟨⟨aC, cC, rfl, hRC⟩, hbB⟩
      obtain ⟨gC, rfl, hgB, hCd⟩ := hRC (by rw [F288_nC]; decide)
      have hn288 : 288 ≤ nC F288 := by rw [F288_nC]; exact Nat.le_refl _
      have x0 : wB.cell? ⟨gC, 512, none⟩ = some (.int .i64 ((code F288 256).1 : Nat)) := hCd.at0 256 (by omega)
      have x1 : wB.cell? ⟨gC, 513, none⟩ = some (.int .u64 ((code F288 256).2 : Nat)) := hCd.at1 256 (by omega)
      have hgC := hCd.lt
      have OB := hideM (OA.out.below hbB)
      have LB := hideM (LA.out.trans (hbB.mono LA.out.size))
      clear hRC hCd hgB hbB OA LA HC
      generalize nC F288 = nN at *
      have hX9 := code_len 256
      have hY64 := code_bits 256
      have HBITS : Hid (lgW j = lgH ++ lgC j ++ bitsOf (code F288 256).2 (code F288 256).1) := rfl
      generalize (code F288 256).1 = X at *
      generalize (code F288 256).2 = Y at *
      have hZn : (256 : Int) < (nN : Int) := by omega
      have HP := hideM (lwPut_any w.heap.size a c Y X (lgH ++ lgC j) wB (by have h := OB.out; rw [HZ.out] at h; exact h) LB.out.size (by omega) hY64 (by rw [List.length_append, lgH_len, lgC_len]; omega))
      rw [← HZ.out, ← HBITS.out] at HP
      clear hX9 hY64 HBITS OB HZ
      go_wp2_with fail
      clear x0 x1 hZn hn288 hgC
      refine Calls.mono HP.out ?_
      rintro e w1 ⟨a1, c1, rfl, ho1, hb1⟩
      have O := hideM ho1
      have L := hideM (LB.out.trans hb1)
      clear ho1 hb1 HP LB
      obtain ⟨Z1, hZ1⟩ : ∃ Z1, ib (lgW j) = Z1 := ⟨_, rfl⟩
      obtain ⟨N, hN⟩ : ∃ N, Z1.length = N := ⟨_, rfl⟩
      have hNj : N = 18 + 13 * j := by rw [← hN, ← hZ1, ib_len, lgW_len]
      rw [hZ1] at O ⊢
      have HZ1 : Hid (Z1 = ib (lgW j)) := hZ1.symm
      have HN := hideM hN
      have HNJ := hideM hNj
      have hN6 : N ≤ 6000 := by omega
      have hN1 : 1 ≤ N := by omega
      rw [hN]
      obtain ⟨M, hM⟩ : ∃ M, (N + 7) / 8 = M := ⟨_, rfl⟩
      have hMi : ((N : Int) + 7).tdiv 8 = (M : Int) := by rw [Int.tdiv_eq_ediv_of_nonneg (by omega)]; omega
      have hM1 : M ≤ 1000 := by omega
      have HM := hideM hM
      have hmx : M ≤ maxLen := by unfold maxLen; omega
      clear hZ1 hN hNj hM hZl
      go_wp2_with (at_make; refine wpList_make_full _ rfl _ _ 22 rfl w1.heap.size 5 i0 (.int .u8 0) 1 Tryz.underlying22 hi hz0 hz1 _ _ _ _ M rfl rfl rfl rfl (by rw [hz2]; omega) hmx (Nat.le_refl _) ?_)
      intro w2 hown hgrow
      rw [toList_madeCells_one] at hown
      rw [← List.map_replicate] at hown
      have hgrow2 : Below w1.heap.size w1 w2 := (Below.refl _ _).grown hgrow (Nat.le_refl _) (by simp)
      have OB : Hid (OwnsB 5 w1.heap.size w2 (some ⟨w1.heap.size, 0, none⟩) M (pad M (pk ((lgW j).take 0)))) := by
        show OwnsB _ _ _ _ _ _
        rw [List.take_zero, pk_nil, pad_nil]
        show World.ownsRow _ _ _ _ (.slice _ (List.length (List.replicate M (0 : Int))) _) (List.length (List.replicate M (0 : Int))) _
        rw [List.length_replicate]
        exact hown
      have O2 := hideM (O.out.below hgrow2)
      have L2 := hideM (L.out.trans (hgrow2.mono L.out.size))
      have hgb : w.heap.size ≤ w1.heap.size := L.out.size
      have HAG := hideM (fun g (e : blk a1 = some g) => O.out.lower3 g e)
      clear hown hgrow hgrow2 O L
      obtain ⟨gb, hgbe⟩ : ∃ gb, w1.heap.size = gb := ⟨_, rfl⟩
      rw [hgbe] at OB hgb HAG ⊢
      clear hgbe
      go_upto_region 14 with fail
      go_loopw [7] (fun q wr => ∃ (k : Nat) (Zb : List Int), k ≤ N ∧ q = .int .i64 (k : Nat) ∧ Hid (Zb.length = M) ∧ Hid (Zb = pad M (pk ((lgW j).take k))) ∧ Hid (OwnsB 5 gb wr (some ⟨gb, 0, none⟩) M Zb) ∧ Hid (OwnsB 5 w.heap.size wr a1 c1 Z1) ∧ Hid (Below w.heap.size w wr)) (fun q _ => N - (intOf q).toNat)
      case atStart => exact ⟨0, _, Nat.zero_le _, rfl, (by show _ = _; rw [List.take_zero, pk_nil, pad_nil, List.length_replicate]), rfl, OB, O2, L2⟩
      case round =>
        clear OB O2 L2
        obtain ⟨k, Zb, hk, rfl, HZM, HZB, OB, O, L⟩ := hrel
        by_cases hkn : k < N
        · have hWl : (lgW j).length = N := by rw [lgW_len, ← HNJ.out]
          obtain ⟨T0, hT0⟩ : ∃ T, (lgW j).take k = T := ⟨_, rfl⟩
          have hTl : T0.length = k := by rw [← hT0, List.length_take, hWl]; omega
          obtain ⟨b, hb⟩ : ∃ b, (lgW j).getD k 0 = b := ⟨_, rfl⟩
          have hb1 : b ≤ 1 := by
            rw [← hb, List.getD_eq_getElem?_getD, List.getElem?_eq_getElem (by omega)]
            exact lgW_bin j _ (List.getElem_mem _)
          have hTS : (lgW j).take (k + 1) = T0 ++ [b] := by
            rw [List.take_add_one, hT0, List.getElem?_eq_getElem (by omega), ← hb, List.getD_eq_getElem?_getD, List.getElem?_eq_getElem (by omega)]
            rfl
          have hbinT : Bin T0 := by rw [← hT0]; exact fun z hz => lgW_bin j z (List.mem_of_mem_take hz)
          have hMk : T0.length / 8 < M := by rw [hTl, ← HM.out]; omega
          obtain ⟨x, hx0, hx1, hx2⟩ := pad_next T0 b M hbinT hb1 hMk
          rw [hTl] at hx0 hx1 hx2
          rw [← hT0, ← HZB.out] at hx0 hx2
          obtain ⟨I, hI⟩ : ∃ I, k / 8 = I := ⟨_, rfl⟩
          obtain ⟨r, hr⟩ : ∃ r, k % 8 = r := ⟨_, rfl⟩
          have hr8 : r < 8 := by omega
          have hIt : (k : Int).tdiv 8 = (I : Int) := by rw [Int.tdiv_eq_ediv_of_nonneg (by omega)]; omega
          have hrt : (k : Int).tmod 8 = (r : Int) := by rw [Int.tmod_eq_emod_of_nonneg (by omega)]; omega
          have hrw : IntKind.u64.wrap (r : Int) = (r : Int) := by rw [IntKind.wrap_u64]; omega
          have hmr : min r 8 = r := by omega
          rw [hI] at hx0 hx2
          rw [hr] at hx1 hx2
          have hor0 := or_add r x b hr8 hb1 hx1
          obtain ⟨T, hT⟩ : ∃ T, b * 2 ^ r = T := ⟨_, rfl⟩
          have hTle : T ≤ 128 := by
            rw [← hT]
            have h1 : 2 ^ r ≤ 2 ^ 7 := Nat.pow_le_pow_right (by decide) (by omega)
            have h2 : b * 2 ^ r ≤ 1 * 2 ^ r := Nat.mul_le_mul_right _ hb1
            omega
          have hx128 : x < 128 := by
            have h1 : 2 ^ r ≤ 2 ^ 7 := Nat.pow_le_pow_right (by decide) (by omega)
            omega
          have hshl : IntKind.u8.wrap ((b : Int) * 2 ^ r) = (T : Int) := by
            rw [show ((2 : Int) ^ r) = ((2 ^ r : Nat) : Int) from (Int.natCast_pow 2 r).symm, ← Int.natCast_mul, hT]
            simp [IntKind.wrap, IntKind.bits, IntKind.signed]
            omega
          rw [hT] at hor0 hx2
          obtain ⟨V, hV⟩ : ∃ V, x + T = V := ⟨_, rfl⟩
          rw [hV] at hor0 hx2
          have hor : bits .or .u8 (x : Int) (T : Int) = (V : Int) := hor0
          have hI2 : I < Zb.length := by rw [HZM.out, ← HM.out, ← hI]; omega
          have cx := OB.out.cell hI2
          rw [hx0] at cx
          have fx : wr.frozen? ⟨gb, I, none⟩ = false := World.ownsRow.frozenAt OB.out I
          obtain ⟨ga, oa, hae, hca⟩ := O.out.mine.row k (by rw [HN.out]; exact hkn)
          have hzk : Z1.getD k 0 = (b : Int) := by rw [HZ1.out, ib_at, hb]
          rw [hzk] at hca
          have HNX : Hid (Zb.set I (V : Int) = pad M (pk ((lgW j).take (k + 1)))) := by show _ = _; rw [hTS, ← hT0]; exact hx2
          have hgne : ga ≠ gb := fun e => by have := HAG.out ga (by rw [hae]; rfl); omega
          have hgw : gb < wr.heap.size := (OB.out.mine.lies _ rfl).2.1
          have o2 := OB.out.set I (V : Int)
          have OB2 := hideM (o2.below ((Below.refl _ _).drew))
          have O2 := hideM ((O.out.grown (grownBy_setCell wr ⟨gb, I, none⟩ (.int .u8 (V : Int))) (fun q e e2 => by have := HAG.out q e2; simp at e; omega)).below ((Below.refl _ _).drew))
          have L2 := hideM ((L.out.setCell (p := ⟨gb, I, none⟩) hgb (.int .u8 (V : Int))).drew)
          have HL2 : Hid ((Zb.set I (V : Int)).length = M) := by show _ = _; rw [List.length_set]; exact HZM.out
          have hIM : (I : Int) < (M : Int) := by have := HZM.out; omega
          have hkN : (k : Int) < (N : Int) := by omega
          subst hae
          clear hT0 hTl hb hTS hbinT hMk hx0 hx1 hx2 hI hr hor0 hT hV hzk o2 HZB hI2 hWl OB O L
          go_upto_region 16 with fail
          go_region
          go_wp2_with fail
          exact ⟨⟨k + 1, Zb.set I (V : Int), by omega, by go_num, HL2, HNX, OB2, O2, L2⟩, by simp [intOf]; omega⟩
        · have e : N = k := by omega
          subst e
          have hzs : Zb = pk (lgW j) := by
            rw [HZB.out, List.take_of_length_le (by rw [lgW_len, ← HNJ.out]; exact Nat.le_refl _), pad_full M _ (by rw [pk_len, lgW_len, ← HNJ.out, HM.out])]
          have HZS := hideM hzs
          have hzsl : Zb.length = M := HZM.out
          have be : Below wr.heap.size wr (wr.alloc (.cells #[] 5)) := (Below.refl _ _).alloc (Nat.le_refl _) _
          have OBe := hideM (OB.out.below be)
          have Le := hideM (L.out.trans (be.mono L.out.size))
          have hse : wr.heap.size < (wr.alloc (.cells #[] 5)).heap.size := by simp
          have INF := hideM (lg_inflate j (by omega) gb wr.heap.size (wr.alloc (.cells #[] 5)) Zb hzs OBe.out.mine.row hse (HG.out.below Le.out hGs))
          rw [hzsl] at INF
          clear hzs be HZM HZB OB O L hk hkn
          go_wp2_with fail
          refine Calls.mono INF.out ?_
          rintro e w5 ⟨K, OUT, NB, hres, aI, cI, rfl, hoI, hbI⟩
          have HRES := hideM hres
          have L5 := hideM (Le.out.trans (hbI.mono Le.out.size))
          have hb6 : Below w5.heap.size w5 (w5.alloc (.cells #[.int .i64 K, .slice aI OUT.length cI, .int .i64 NB] 34)) := (Below.refl _ _).alloc (Nat.le_refl _) _
          have G6 := hideM (rs3v_new w5 (.int .i64 K) (.slice aI OUT.length cI) (.int .i64 NB) 34)
          have L6 := hideM (L5.out.trans (hb6.mono L5.out.size))
          have M6 := hideM (hoI.mine.below hb6)
          clear hres hbI hoI INF Le L5 OBe hse hb6
          go_upto_region 18 with fail
          have z6 : w5.heap.size < (w5.alloc (.cells #[.int .i64 K, .slice aI OUT.length cI, .int .i64 NB] 34)).heap.size := World.block_lt_of_cell? _ _ G6.out.c0
          generalize w5.alloc (.cells #[.int .i64 K, .slice aI OUT.length cI, .int .i64 NB] 34) = w6 at *
          obtain ⟨p0, p1, p2, _⟩ := G6.out
          by_cases hbig : 100000 < 1 + 258 * j
          · obtain ⟨rfl, ho⟩ := HRES.out.1 hbig
            have hd1 : decide (1 + 258 * (j : Int) > 100000) = true := decide_eq_true (by omega)
            have hol : ((OUT.length : Int) == 99847) = true := by rw [ho]; rfl
            clear HRES ho
            go_wp2_with fail
            go_ret
            exact ⟨rfl, L6.out⟩
          · obtain ⟨rfl, ho, hnb⟩ := HRES.out.2 (by omega)
            have hd1 : decide (1 + 258 * (j : Int) > 100000) = false := decide_eq_false (by omega)
            have hol : OUT.length = 1 + 258 * j := by rw [ho, List.length_replicate]
            have hole : ((OUT.length : Int) == 1 + 258 * (j : Int)) = true := by rw [hol]; simp
            have hnbe : (NB == (N : Int)) = true := by rw [hnb, lgW_len, ← HNJ.out]; simp
            obtain ⟨gI, oI, haI, hcI⟩ := M6.out.row (258 * j) (by omega)
            have h7 : OUT.getD (258 * j) 0 = 7 := by rw [ho, List.getD_eq_getElem?_getD, List.getElem?_replicate, if_pos (by omega)]; rfl
            rw [h7] at hcI
            obtain ⟨q, hq⟩ : ∃ q, 258 * j = q := ⟨_, rfl⟩
            rw [hq] at hcI
            have hol2 : OUT.length = q + 1 := by omega
            rw [hol2] at p1 hole
            have hole2 : ((q : Int) + 1 == 1 + 258 * (j : Int)) = true := by simp; omega
            have hq5 : q ≤ 200000 := by omega
            have hgI : gI < w6.heap.size := World.block_lt_of_cell? _ _ hcI
            subst haI
            clear HRES ho hnb hol h7 hq hol2
            go_wp2_with fail
            go_ret
            exact ⟨rfl, L6.out⟩
end Go.Proofs.YtboniidgoepdcaaGreatDoor
