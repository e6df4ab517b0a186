import Derived.Test.YtmfacacpoajpgaaCrcW
import Derived.Deep.QuietTactic
import Derived.BigQuiet
import Derived.Deep.DrawnRows
import Derived.WalkLawsBesides
import Derived.Test.YtmfacacpoajpgaaSrc
namespace Go.Proofs.Ytmfacacpoajpgaa
open Go.RowKit
attribute [local go_sem ↓] Go.wp_at_zero Go.wp_at_succ

theorem take8 (ys : List Int) (h : 8 ≤ ys.length) : ys.take 8 = [ys.getD 0 0, ys.getD 1 0, ys.getD 2 0, ys.getD 3 0, ys.getD 4 0, ys.getD 5 0, ys.getD 6 0, ys.getD 7 0] := by
  match ys, h with
  | a :: b :: c :: d :: e :: f :: g :: i :: t, _ => rfl

theorem row_cut_if' {w : World} {b off cap k : Nat} {zs : List Int} (h : Row w (some ⟨b, off, none⟩) zs) (hc : zs.length ≤ cap) : Row w (if cap = k then some ⟨b, off, none⟩ else some ⟨b, off + k, none⟩) (zs.drop k) := by
  intro i hi
  rw [List.length_drop] at hi
  obtain ⟨b', off', e, hcell⟩ := h (k + i) (by omega)
  simp only [Option.some.injEq, Addr.mk.injEq, and_true] at e
  obtain ⟨rfl, rfl⟩ := e
  rw [if_neg (by omega)]
  refine ⟨b, off + k, rfl, ?_⟩
  rw [Nat.add_assoc, hcell]
  simp [List.getD]

theorem drewN_drewN (w : World) (a b : Nat) : (w.drewN a).drewN b = w.drewN (a + b) := by
  simp [World.drewN, Nat.add_assoc]

set_option maxRecDepth 100000 in
set_option maxHeartbeats 6400000 in
/-- (*crcTables).sum. -/
theorem tsum_any (p : Nat) (c : Nat) (c1 : c < 4294967296) (ao : Option Addr) (cap : Nat) (zs : List Int) (w : World) (hT : CTab w p 2048) (hr : Row w ao zs) (ho : Octets zs) (hcap : zs.length ≤ cap) (hl : zs.length ≤ 1048576) :
    Calls Try.prog 43 #[.pointer (some ⟨p, 0, none⟩), .int .u32 c, .slice ao zs.length cap] w fun e w' => e = .returned (.int .u32 (Crc.cr (c ^^^ 4294967295) zs ^^^ 4294967295 : Nat)) ∧ ∃ q, w' = w.drewN q := by
  have hn := not_any c c1
  have hn' : c ^^^ 4294967295 < 4294967296 := Nat.xor_lt_two_pow (n := 32) c1 (by decide)
  go_enter Try.func43, Try.ntmps43
  go_wp2_with fail
  go_loopw [1, 2] (fun s v wr => ∃ ao' cap' xs ys, zs = xs ++ ys ∧ v = .slice ao' ys.length cap' ∧ ys.length ≤ cap' ∧ Row w ao' ys ∧ s = .int .u32 (Crc.cr (c ^^^ 4294967295) xs : Nat) ∧ ∃ q, wr = w.drewN q) (fun _ v _ => sliceLen v)
  case atStart => exact ⟨ao, cap, [], zs, rfl, rfl, hcap, hr, congrArg (Value.int .u32) hn, 0, rfl⟩
  case round =>
    clear hr hcap hn
    obtain ⟨ao, cap, xs, ys, rfl, rfl, hcap, hr0, rfl, q, hq⟩ := hrel
    have hr : Row wr ao ys := by rw [hq]; exact hr0
    have hTr : CTab wr p 2048 := by rw [hq]; exact ⟨hT.made, hT.all, hT.free⟩
    have HQ : Hid (wr = w.drewN q) := hq
    have HR0 : Hid (Row w ao ys) := hr0
    clear hq hr0
    have hbd := Crc.cr_lt (c ^^^ 4294967295) xs hn' (fun z hz => ho z (List.mem_append_left _ hz))
    obtain ⟨s, hs⟩ : ∃ s, Crc.cr (c ^^^ 4294967295) xs = s := ⟨_, rfl⟩
    rw [hs] at hbd ⊢
    have HS : Hid _ := hs
    clear hs
    have hoy : Octets ys := fun z hz => ho z (List.mem_append_right _ hz)
    have hly : ys.length ≤ 1048576 := by rw [List.length_append] at hl; omega
    by_cases h8 : 8 ≤ ys.length
    · have h8i : (8 : Int) ≤ ys.length := by omega
      obtain ⟨b, off, rfl, hc⟩ := hr.at (k := 0) (by omega)
      have k0 := hc 0 (by omega)
      have k1 := hc 1 (by omega)
      have k2 := hc 2 (by omega)
      have k3 := hc 3 (by omega)
      have k4 := hc 4 (by omega)
      have k5 := hc 5 (by omega)
      have k6 := hc 6 (by omega)
      have k7 := hc 7 (by omega)
      have g0 : (0 : Int) < ys.length := by omega
      have g1 : (1 : Int) < ys.length := by omega
      have g2 : (2 : Int) < ys.length := by omega
      have g3 : (3 : Int) < ys.length := by omega
      have g4 : (4 : Int) < ys.length := by omega
      have g5 : (5 : Int) < ys.length := by omega
      have g6 : (6 : Int) < ys.length := by omega
      have g7 : (7 : Int) < ys.length := by omega
      obtain ⟨Y0, hY0⟩ := Int.eq_ofNat_of_zero_le (hoy.getD 0).1
      have y0 := (hoy.getD 0).2
      rw [hY0] at k0 y0
      obtain ⟨Y1, hY1⟩ := Int.eq_ofNat_of_zero_le (hoy.getD 1).1
      have y1 := (hoy.getD 1).2
      rw [hY1] at k1 y1
      obtain ⟨Y2, hY2⟩ := Int.eq_ofNat_of_zero_le (hoy.getD 2).1
      have y2 := (hoy.getD 2).2
      rw [hY2] at k2 y2
      obtain ⟨Y3, hY3⟩ := Int.eq_ofNat_of_zero_le (hoy.getD 3).1
      have y3 := (hoy.getD 3).2
      rw [hY3] at k3 y3
      obtain ⟨Y4, hY4⟩ := Int.eq_ofNat_of_zero_le (hoy.getD 4).1
      have y4 := (hoy.getD 4).2
      rw [hY4] at k4 y4
      obtain ⟨Y5, hY5⟩ := Int.eq_ofNat_of_zero_le (hoy.getD 5).1
      have y5 := (hoy.getD 5).2
      rw [hY5] at k5 y5
      obtain ⟨Y6, hY6⟩ := Int.eq_ofNat_of_zero_le (hoy.getD 6).1
      have y6 := (hoy.getD 6).2
      rw [hY6] at k6 y6
      obtain ⟨Y7, hY7⟩ := Int.eq_ofNat_of_zero_le (hoy.getD 7).1
      have y7 := (hoy.getD 7).2
      rw [hY7] at k7 y7
      obtain ⟨n, hnn⟩ : ∃ n, ys.length = n := ⟨_, rfl⟩
      have HNN : Hid _ := hnn
      rw [hnn] at g0 g1 g2 g3 g4 g5 g6 g7 hcap hly h8i ⊢
      have n0 : 0 < n := by omega
      have n1 : 1 < n := by omega
      have n2 : 2 < n := by omega
      have n3 : 3 < n := by omega
      have n4 : 4 < n := by omega
      have n5 : 5 < n := by omega
      have n6 : 6 < n := by omega
      have n7 : 7 < n := by omega
      rw [Nat.add_zero] at k0
      clear hc h8 hnn
      go_wp2_with fail
      go_quiet (fail)
      obtain ⟨C, hC⟩ : ∃ C, s ^^^ (Y0 ||| Y1 * 256 ||| Y2 * 65536 ||| Y3 * 16777216) = C := ⟨_, rfl⟩
      have o1 : Y0 ||| Y1 * 256 < 4294967296 := Nat.or_lt_two_pow (n := 32) (by omega) (by omega)
      have o2 : Y0 ||| Y1 * 256 ||| Y2 * 65536 < 4294967296 := Nat.or_lt_two_pow (n := 32) o1 (by omega)
      have o3 : Y0 ||| Y1 * 256 ||| Y2 * 65536 ||| Y3 * 16777216 < 4294967296 := Nat.or_lt_two_pow (n := 32) o2 (by omega)
      have hCl : C < 4294967296 := by rw [← hC]; exact Nat.xor_lt_two_pow (n := 32) hbd o3
      have hCx : bits .xor .u32 (s : Int) (bits .or .u32 (bits .or .u32 (bits .or .u32 (Y0 : Int) ((Y1 : Int) * 256)) ((Y2 : Int) * 65536)) ((Y3 : Int) * 16777216)) = (C : Int) := by
        rw [show (Y1 : Int) * 256 = ((Y1 * 256 : Nat) : Int) by omega, show (Y2 : Int) * 65536 = ((Y2 * 65536 : Nat) : Int) by omega, show (Y3 : Int) * 16777216 = ((Y3 * 16777216 : Nat) : Int) by omega]
        rw [u32_or_nat _ _ (by omega) (by omega), u32_or_nat _ _ o1 (by omega), u32_or_nat _ _ o2 (by omega), u32_xor_nat _ _ hbd o3, hC]
      rw [hCx]
      have HC : Hid _ := hC
      obtain ⟨i7, hi7⟩ : ∃ i, C % 256 = i := ⟨_, rfl⟩
      obtain ⟨i6, hi6⟩ : ∃ i, C / 256 % 256 = i := ⟨_, rfl⟩
      obtain ⟨i5, hi5⟩ : ∃ i, C / 65536 % 256 = i := ⟨_, rfl⟩
      obtain ⟨i4, hi4⟩ : ∃ i, C / 16777216 = i := ⟨_, rfl⟩
      have a7 : bits .and .u32 (C : Int) 255 = (i7 : Int) := by
        rw [show (255 : Int) = ((255 : Nat) : Int) from rfl, u32_and_nat _ _ hCl (by decide), show (255 : Nat) = 2 ^ 8 - 1 from rfl, Nat.and_two_pow_sub_one_eq_mod, ← hi7]
      have a6 : bits .and .u32 ((C : Int) / 256) 255 = (i6 : Int) := by
        rw [show (C : Int) / 256 = ((C / 256 : Nat) : Int) by omega, show (255 : Int) = ((255 : Nat) : Int) from rfl, u32_and_nat _ _ (by omega) (by decide), show (255 : Nat) = 2 ^ 8 - 1 from rfl, Nat.and_two_pow_sub_one_eq_mod, ← hi6]
      have a5 : bits .and .u32 ((C : Int) / 65536) 255 = (i5 : Int) := by
        rw [show (C : Int) / 65536 = ((C / 65536 : Nat) : Int) by omega, show (255 : Int) = ((255 : Nat) : Int) from rfl, u32_and_nat _ _ (by omega) (by decide), show (255 : Nat) = 2 ^ 8 - 1 from rfl, Nat.and_two_pow_sub_one_eq_mod, ← hi5]
      have a4 : (C : Int) / 16777216 = (i4 : Int) := by omega
      have b7 : (i7 : Int) < 256 := by omega
      have b6 : (i6 : Int) < 256 := by omega
      have b5 : (i5 : Int) < 256 := by omega
      have b4 : (i4 : Int) < 256 := by omega
      have b3 : (Y4 : Int) < 256 := by omega
      have b2 : (Y5 : Int) < 256 := by omega
      have b1 : (Y6 : Int) < 256 := by omega
      have b0 : (Y7 : Int) < 256 := by omega
      obtain ⟨V7, hV7⟩ : ∃ V, Crc.tab 7 i7 = V := ⟨_, rfl⟩
      have m7 := hTr.made (1792 + i7) (by omega)
      rw [show (1792 + i7) / 256 = 7 by omega, show (1792 + i7) % 256 = i7 by omega, hV7] at m7
      have HV7 : Hid _ := hV7
      have l7 : V7 < 4294967296 := by rw [← hV7]; exact Crc.tab_lt _ _ (by omega)
      obtain ⟨V6, hV6⟩ : ∃ V, Crc.tab 6 i6 = V := ⟨_, rfl⟩
      have m6 := hTr.made (1536 + i6) (by omega)
      rw [show (1536 + i6) / 256 = 6 by omega, show (1536 + i6) % 256 = i6 by omega, hV6] at m6
      have HV6 : Hid _ := hV6
      have l6 : V6 < 4294967296 := by rw [← hV6]; exact Crc.tab_lt _ _ (by omega)
      obtain ⟨V5, hV5⟩ : ∃ V, Crc.tab 5 i5 = V := ⟨_, rfl⟩
      have m5 := hTr.made (1280 + i5) (by omega)
      rw [show (1280 + i5) / 256 = 5 by omega, show (1280 + i5) % 256 = i5 by omega, hV5] at m5
      have HV5 : Hid _ := hV5
      have l5 : V5 < 4294967296 := by rw [← hV5]; exact Crc.tab_lt _ _ (by omega)
      obtain ⟨V4, hV4⟩ : ∃ V, Crc.tab 4 i4 = V := ⟨_, rfl⟩
      have m4 := hTr.made (1024 + i4) (by omega)
      rw [show (1024 + i4) / 256 = 4 by omega, show (1024 + i4) % 256 = i4 by omega, hV4] at m4
      have HV4 : Hid _ := hV4
      have l4 : V4 < 4294967296 := by rw [← hV4]; exact Crc.tab_lt _ _ (by omega)
      obtain ⟨V3, hV3⟩ : ∃ V, Crc.tab 3 Y4 = V := ⟨_, rfl⟩
      have m3 := hTr.made (768 + Y4) (by omega)
      rw [show (768 + Y4) / 256 = 3 by omega, show (768 + Y4) % 256 = Y4 by omega, hV3] at m3
      have HV3 : Hid _ := hV3
      have l3 : V3 < 4294967296 := by rw [← hV3]; exact Crc.tab_lt _ _ (by omega)
      obtain ⟨V2, hV2⟩ : ∃ V, Crc.tab 2 Y5 = V := ⟨_, rfl⟩
      have m2 := hTr.made (512 + Y5) (by omega)
      rw [show (512 + Y5) / 256 = 2 by omega, show (512 + Y5) % 256 = Y5 by omega, hV2] at m2
      have HV2 : Hid _ := hV2
      have l2 : V2 < 4294967296 := by rw [← hV2]; exact Crc.tab_lt _ _ (by omega)
      obtain ⟨V1, hV1⟩ : ∃ V, Crc.tab 1 Y6 = V := ⟨_, rfl⟩
      have m1 := hTr.made (256 + Y6) (by omega)
      rw [show (256 + Y6) / 256 = 1 by omega, show (256 + Y6) % 256 = Y6 by omega, hV1] at m1
      have HV1 : Hid _ := hV1
      have l1 : V1 < 4294967296 := by rw [← hV1]; exact Crc.tab_lt _ _ (by omega)
      obtain ⟨V0, hV0⟩ : ∃ V, Crc.tab 0 Y7 = V := ⟨_, rfl⟩
      have m0 := hTr.made (0 + Y7) (by omega)
      rw [show (0 + Y7) / 256 = 0 by omega, show (0 + Y7) % 256 = Y7 by omega, hV0] at m0
      have HV0 : Hid _ := hV0
      have l0 : V0 < 4294967296 := by rw [← hV0]; exact Crc.tab_lt _ _ (by omega)
      rw [Nat.zero_add] at m0
      clear hTr hC hCx o1 o2 o3 hV0 hV1 hV2 hV3 hV4 hV5 hV6 hV7
      go_wp2_with fail
      go_quiet (fail)
      have x1 : V7 ^^^ V6 < 4294967296 := Nat.xor_lt_two_pow (n := 32) l7 l6
      have x2 : V7 ^^^ V6 ^^^ V5 < 4294967296 := Nat.xor_lt_two_pow (n := 32) x1 l5
      have x3 : V7 ^^^ V6 ^^^ V5 ^^^ V4 < 4294967296 := Nat.xor_lt_two_pow (n := 32) x2 l4
      have x4 : V7 ^^^ V6 ^^^ V5 ^^^ V4 ^^^ V3 < 4294967296 := Nat.xor_lt_two_pow (n := 32) x3 l3
      have x5 : V7 ^^^ V6 ^^^ V5 ^^^ V4 ^^^ V3 ^^^ V2 < 4294967296 := Nat.xor_lt_two_pow (n := 32) x4 l2
      have x6 : V7 ^^^ V6 ^^^ V5 ^^^ V4 ^^^ V3 ^^^ V2 ^^^ V1 < 4294967296 := Nat.xor_lt_two_pow (n := 32) x5 l1
      rw [u32_xor_nat _ _ l7 l6, u32_xor_nat _ _ x1 l5, u32_xor_nat _ _ x2 l4, u32_xor_nat _ _ x3 l3, u32_xor_nat _ _ x4 l2, u32_xor_nat _ _ x5 l1, u32_xor_nat _ _ x6 l0]
      have hfin : Crc.cr (c ^^^ 4294967295) (xs ++ ys.take 8) = V7 ^^^ V6 ^^^ V5 ^^^ V4 ^^^ V3 ^^^ V2 ^^^ V1 ^^^ V0 := by
        rw [Crc.cr_append, HS.out, take8 ys (by have := HNN.out; omega), hY0, hY1, hY2, hY3, hY4, hY5, hY6, hY7]
        rw [Crc.eight_tab s Y0 Y1 Y2 Y3 Y4 Y5 Y6 Y7 (by omega) (by omega) (by omega) (by omega), HC.out, show (64 : Nat) = 8 * (4 + 4) from rfl, Crc.halves_four 4 C hCl, hi7, hi6, hi5, hi4]
        rw [HV7.out, HV6.out, HV5.out, HV4.out, HV3.out, HV2.out, HV1.out, HV0.out]
      have hrw := row_cut_if' (cap := cap) (k := 8) HR0.out (by have := HNN.out; omega)
      have hdl : (ys.drop 8).length = n - 8 := by rw [List.length_drop, HNN.out]
      clear a7 a6 a5 a4 m7 m6 m5 m4 m3 m2 m1 m0 k0 k1 k2 k3 k4 k5 k6 k7
      go_wp2_with fail
      go_roundw
      case rel => exact ⟨_, cap - 8, xs ++ ys.take 8, ys.drop 8, by simp, by rw [hdl], by rw [hdl]; omega, hrw, by rw [hfin], ⟨_, by rw [HQ.out, drewN_drewN]⟩⟩
      case measure => simp only [sliceLen]; omega
    · have h8i : ¬ (8 : Int) ≤ ys.length := by omega
      clear h8
      go_wp2_with fail
      clear h8i
      go_loop [1, 111] (fun d i => ∃ k : Nat, k ≤ ys.length ∧ i = .int .i64 k ∧ d = .int .u32 (Crc.cr s (ys.take k) : Nat)) (fun _ i => ys.length - (intOf i).toNat)
      case atStart => exact ⟨0, Nat.zero_le _, rfl, rfl⟩
      case round =>
        obtain ⟨k, hk, rfl, rfl⟩ := hrel
        have hd := Crc.cr_lt s (ys.take k) hbd (octets_take hoy k)
        by_cases hlt : k < ys.length
        · have HN : Hid _ := cr_next s ys k hlt
          obtain ⟨b, off, rfl, hc⟩ := hr.at hlt
          have hck := hc k hlt
          obtain ⟨Y, hY⟩ := Int.eq_ofNat_of_zero_le (hoy.getD k).1
          have hY2 := (hoy.getD k).2
          obtain ⟨d, hdd⟩ : ∃ d, Crc.cr s (ys.take k) = d := ⟨_, rfl⟩
          have hone := Crc.one_tab d (ys.getD k 0) (hoy.getD k)
          rw [hdd] at hd ⊢
          rw [hY] at hck hY2 hone
          rw [Int.toNat_natCast] at hone
          have hix : d % 256 ^^^ Y < 256 := Nat.xor_lt_two_pow (n := 8) (by omega) (by omega)
          have hm := hTr.made (d % 256 ^^^ Y) (by omega)
          rw [Nat.div_eq_of_lt hix, Nat.mod_eq_of_lt hix] at hm
          have hand : bits .and .u32 (d : Int) 255 = ((d % 256 : Nat) : Int) := by
            rw [show (255 : Int) = ((255 : Nat) : Int) from rfl, u32_and_nat _ _ hd (by decide), show (255 : Nat) = 2 ^ 8 - 1 from rfl, Nat.and_two_pow_sub_one_eq_mod]
          have hxo : bits .xor .u32 ((d % 256 : Nat) : Int) (Y : Int) = ((d % 256 ^^^ Y : Nat) : Int) := u32_xor_nat _ _ (by omega) (by omega)
          have htl := Crc.tab_lt 0 (d % 256 ^^^ Y) (by omega)
          have hres : bits .xor .u32 ((d / 256 : Nat) : Int) ((Crc.tab 0 (d % 256 ^^^ Y) : Nat) : Int) = ((Crc.one d (Y : Int) : Nat) : Int) := by
            rw [u32_xor_nat _ _ (by omega) htl, hone]
          obtain ⟨V, hV⟩ : ∃ V, Crc.tab 0 (d % 256 ^^^ Y) = V := ⟨_, rfl⟩
          rw [hV] at hm hres
          obtain ⟨ix, hixx⟩ : ∃ ix, d % 256 ^^^ Y = ix := ⟨_, rfl⟩
          rw [hixx] at hm hxo hix
          obtain ⟨A, hA⟩ : ∃ A, d % 256 = A := ⟨_, rfl⟩
          obtain ⟨D, hD⟩ : ∃ D, d / 256 = D := ⟨_, rfl⟩
          rw [hA] at hand hxo
          rw [hD] at hres
          have hdv : (d : Int) / 256 = (D : Int) := by omega
          have hixi : (ix : Int) < 256 := by omega
          rw [hdd, hY] at HN
          have HRES : Hid _ := hres
          clear hc hone hV hixx hA hD hix hdd hY htl hres
          go_wp2_with fail
          go_round
          case rel => exact ⟨k + 1, by omega, by go_num, by rw [HN.out]; exact congrArg (Value.int .u32) HRES.out⟩
          case measure => simp [intOf]; omega
        · have e : ys.take k = ys := List.take_of_length_le (by omega)
          rw [e] at hd ⊢
          have hz := not_any _ hd
          have hfin : Crc.cr (c ^^^ 4294967295) (xs ++ ys) = Crc.cr s ys := by rw [Crc.cr_append, HS.out]
          clear hr
          go_wp2_with fail
          go_ret
          exact ⟨ret_int hz, q, HQ.out⟩

/-- impl.CrcUpdate, at a text of one part. -/
theorem cupd_long (c : Nat) (c1 : c < 4294967296) (ao : Option Addr) (cap : Nat) (zs : List Int) (n : Nat) (hn : zs.length = n) (w : World) (hr : Row w ao zs) (ho : Octets zs) (hcap : zs.length ≤ cap) (hl : zs.length ≤ 65536) :
    Calls Try.prog 15 #[.int .u32 c, .slice ao n cap] w fun e w' => e = .returned (.int .u32 (Crc.cr (c ^^^ 4294967295) zs ^^^ 4294967295 : Nat)) ∧ Below w.heap.size w w' := by
  subst hn
  by_cases h : (zs.length : Int) < 512
  · go_enter Try.func15, Try.ntmps15
    go_wp2_with fail
    refine (bitwise_any c c1 ao cap zs _ hr ho (by omega)).mono ?_
    rintro e w' ⟨rfl, rfl⟩
    go_wp2_with fail
    go_ret
    exact ⟨rfl, Below.refl _ _⟩
  · have hl2 : (zs.length : Int) ≤ 65536 := by omega
    go_enter Try.func15, Try.ntmps15
    go_wp2_with fail
    refine (tables_any w).mono ?_
    rintro e w1 ⟨rfl, hT, hb⟩
    have hr1 := hr.below hb
    go_wp2_with fail
    refine (tsum_any w.heap.size c c1 ao cap zs w1 hT hr1 ho hcap (by omega)).mono ?_
    rintro e w2 ⟨rfl, q, rfl⟩
    go_wp2_with fail
    go_ret
    exact ⟨rfl, hb.trans ((below_drewN' _ _ _).mono hb.size)⟩
end Go.Proofs.Ytmfacacpoajpgaa
