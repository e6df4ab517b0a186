import Derived.Test.YtmfacacpoajpgaaProg
import Derived.Test.YtmfacacpoajpgaaSum
import Derived.Test.YtmfacacpoajpgaaJoinA
import Derived.Test.YtmfacacpoajpgaaJoinC
import Derived.Test.YtmfacacpoajpgaaMem
import Derived.Test.YtmfacacpoajpgaaSrc
import Derived.WalkKit
import Derived.WalkSpells
import Derived.WalkLawsBesides
import Derived.BigQuiet
import Derived.Laws.BitsAllLaws
namespace Go.Proofs.Ytmfacacpoajpgaa
open Go.RowKit

theorem take_next (zs : List Int) (k : Nat) (h : k < zs.length) : zs.take (k + 1) = zs.take k ++ [zs.getD k 0] := by
  rw [List.take_succ_eq_append_getElem h]
  simp [List.getD, h]

theorem octets_take {zs : List Int} (h : Octets zs) (k : Nat) : Octets (zs.take k) := fun z hz => h z (List.mem_of_mem_take hz)
theorem octets_drop {zs : List Int} (h : Octets zs) (k : Nat) : Octets (zs.drop k) := fun z hz => h z (List.mem_of_mem_drop hz)

theorem not_any (c : Nat) (h : c < 4294967296) : bits .xor .u32 4294967295 (c : Int) = ((c ^^^ 4294967295 : Nat) : Int) := by
  rw [show (4294967295 : Int) = ((4294967295 : Nat) : Int) from rfl, u32_xor_nat _ _ (by decide) h, Nat.xor_comm]

theorem up_next (s t : Int) (zs : List Int) (k : Nat) (h : k < zs.length) :
    Adl.up s t (zs.take (k + 1)) = (((Adl.up s t (zs.take k)).1 + zs.getD k 0) % 65521, ((Adl.up s t (zs.take k)).2 + ((Adl.up s t (zs.take k)).1 + zs.getD k 0) % 65521) % 65521) := by
  rw [take_next zs k h, Adl.up_append]; rfl

set_option maxHeartbeats 1600000 in
/-- spec.AdlerUpdate. -/
theorem sadler_any (a : Int) (a0 : 0 ≤ a) (a1 : a < 4294967296) (ao : Option Addr) (cap : Nat) (zs : List Int) (w : World) (hr : Row w ao zs) (ho : Octets zs) (hl : zs.length ≤ 1048576) :
    Calls Try.prog 11 #[.int .u32 a, .slice ao zs.length cap] w fun e w' => e = .returned (.int .u32 (Adl.whole (Adl.up (a % 65536 % 65521) (a / 65536 % 65521) zs))) ∧ w' = w := by
  go_enter Try.func11, Try.ntmps11
  go_wp2_with fail
  go_loop [5, 6, 7] (fun s t i => ∃ k : Nat, k ≤ zs.length ∧ i = .int .i64 k ∧ s = .int .u32 (Adl.up (a % 65536 % 65521) (a / 65536 % 65521) (zs.take k)).1 ∧ t = .int .u32 (Adl.up (a % 65536 % 65521) (a / 65536 % 65521) (zs.take k)).2) (fun _ _ i => zs.length - (intOf i).toNat)
  case atStart => exact ⟨0, Nat.zero_le _, rfl, rfl, rfl⟩
  case round =>
    obtain ⟨k, hk, rfl, rfl, rfl⟩ := hrel
    have hbd := Adl.up_bd (a % 65536 % 65521) (a / 65536 % 65521) (zs.take k) (by omega)
    by_cases hlt : k < zs.length
    · have HN : Hid _ := up_next (a % 65536 % 65521) (a / 65536 % 65521) zs k hlt
      obtain ⟨b, off, rfl, hc⟩ := hr.at hlt
      have hck := hc k hlt
      have hy := ho.getD k
      clear hc hr ho
      generalize Adl.up (a % 65536 % 65521) (a / 65536 % 65521) (zs.take k) = S at *
      generalize zs.getD k 0 = y at *
      obtain ⟨s, t⟩ := S
      simp only at hbd
      go_wp2_with fail
      go_round
      case rel => exact ⟨k + 1, by omega, by go_num, by rw [HN.out], by rw [HN.out]⟩
      case measure => simp [intOf]; omega
    · have e : zs.take k = zs := List.take_of_length_le (by omega)
      rw [e] at hbd ⊢
      obtain ⟨S, hS⟩ : ∃ S, Adl.up (a % 65536 % 65521) (a / 65536 % 65521) zs = S := ⟨_, rfl⟩
      rw [hS] at hbd ⊢
      have HS : Hid _ := hS
      clear hS
      obtain ⟨s, t⟩ := S
      simp only at hbd ⊢
      clear hr ho
      go_wp2_with fail
      go_ret
      exact ⟨ret_int (by rw [HS.out]; unfold Adl.whole; omega), rfl⟩

theorem cr_next (c : Nat) (zs : List Int) (k : Nat) (h : k < zs.length) : Crc.cr c (zs.take (k + 1)) = Crc.one (Crc.cr c (zs.take k)) (zs.getD k 0) := by
  rw [take_next zs k h, Crc.cr_snoc]

theorem xor_byte (c : Nat) (y : Int) (hc : c < 4294967296) (hy : 0 ≤ y ∧ y ≤ 255) : bits .xor .u32 (c : Int) y = ((c ^^^ y.toNat : Nat) : Int) ∧ c ^^^ y.toNat < 4294967296 := by
  obtain ⟨Y, rfl⟩ := Int.eq_ofNat_of_zero_le hy.1
  exact ⟨xor_int c Y hc (by omega), Nat.xor_lt_two_pow (n := 32) hc (by simp; omega)⟩

set_option maxHeartbeats 1600000 in
/-- spec.CrcUpdate. -/
theorem scrc_any (c : Nat) (c1 : c < 4294967296) (ao : Option Addr) (cap : Nat) (zs : List Int) (w : World) (hr : Row w ao zs) (ho : Octets zs) (hl : zs.length ≤ 1048576) :
    Calls Try.prog 12 #[.int .u32 c, .slice ao zs.length cap] w fun e w' => e = .returned (.int .u32 (Crc.cr (c ^^^ 4294967295) zs ^^^ 4294967295 : Nat)) ∧ w' = w := by
  have hn := not_any c c1
  have hn' : c ^^^ 4294967295 < 4294967296 := Nat.xor_lt_two_pow (n := 32) c1 (by decide)
  go_enter Try.func12, Try.ntmps12
  go_wp2_with fail
  go_loop [0, 5] (fun s i => ∃ k : Nat, k ≤ zs.length ∧ i = .int .i64 k ∧ s = .int .u32 (Crc.cr (c ^^^ 4294967295) (zs.take k) : Nat)) (fun _ i => zs.length - (intOf i).toNat)
  case atStart => exact ⟨0, Nat.zero_le _, rfl, congrArg (Value.int .u32) hn⟩
  case round =>
    obtain ⟨k, hk, rfl, rfl⟩ := hrel
    have hbd := Crc.cr_lt (c ^^^ 4294967295) (zs.take k) hn' (octets_take ho k)
    by_cases hlt : k < zs.length
    · have HN : Hid _ := cr_next (c ^^^ 4294967295) zs k hlt
      obtain ⟨b, off, rfl, hc⟩ := hr.at hlt
      have hck := hc k hlt
      have hy := ho.getD k
      clear hc hr ho
      have hx := xor_byte (Crc.cr (c ^^^ 4294967295) (zs.take k)) _ hbd hy
      generalize Crc.cr (c ^^^ 4294967295) (zs.take k) = s at *
      generalize zs.getD k 0 = y at *
      have HX : Hid _ := hx.1
      have hx2 := hx.2
      clear hx
      go_wp2_with fail
      go_loop [0, 6] (fun u j => ∃ m : Nat, m ≤ 8 ∧ j = .int .i64 m ∧ u = .int .u32 (Crc.halves m (s ^^^ y.toNat) : Nat)) (fun _ j => 8 - (intOf j).toNat)
      case atStart => exact ⟨0, Nat.zero_le _, rfl, congrArg (Value.int .u32) HX.out⟩
      case round =>
        obtain ⟨m, hm, rfl, rfl⟩ := hrel
        have hh := Crc.halves_lt m _ hx2
        by_cases h8 : m < 8
        · go_wp2_with (go_at_call 34; refine (half_any _ hh _).mono ?_; rintro e w' ⟨rfl, rfl⟩)
          go_round
          case rel => exact ⟨m + 1, by omega, by go_num, by rw [Crc.halves_succ]⟩
          case measure => simp [intOf]; omega
        · have e : m = 8 := by omega
          subst e
          go_wp2_with fail
          go_round
          case rel => exact ⟨k + 1, by omega, by go_num, by rw [HN.out]; rfl⟩
          case measure => simp [intOf]; omega
    · have e : zs.take k = zs := List.take_of_length_le (by omega)
      rw [e] at hbd ⊢
      have hz := not_any _ hbd
      clear hr ho
      go_wp2_with fail
      go_ret
      exact ⟨ret_int hz, rfl⟩
/-- impl.crcZeroByte. -/
theorem zeroByte_any (c : Nat) (h : c < 4294967296) (w : World) :
    Calls Try.prog 60 #[.int .u32 c] w fun e w' => e = .returned (.int .u32 (Crc.halves 8 c : Nat)) ∧ w' = w := by
  go_enter Try.func60, Try.ntmps60
  go_wp2_with fail
  go_loop [0, 3] (fun u j => ∃ m : Nat, m ≤ 8 ∧ j = .int .i64 m ∧ u = .int .u32 (Crc.halves m c : Nat)) (fun _ j => 8 - (intOf j).toNat)
  case atStart => exact ⟨0, Nat.zero_le _, rfl, rfl⟩
  case round =>
    obtain ⟨m, hm, rfl, rfl⟩ := hrel
    have hh := Crc.halves_lt m _ h
    by_cases h8 : m < 8
    · go_wp2_with (go_at_call 61; refine (step_any _ hh _).mono ?_; rintro e w' ⟨rfl, rfl⟩)
      go_round
      case rel => exact ⟨m + 1, by omega, by go_num, by rw [Crc.halves_succ]⟩
      case measure => simp [intOf]; omega
    · have e : m = 8 := by omega
      subst e
      go_wp2_with fail
      go_ret
      exact ⟨rfl, rfl⟩

set_option maxHeartbeats 1600000 in
/-- impl.crcBitwise. -/
theorem bitwise_any (c : Nat) (c1 : c < 4294967296) (ao : Option Addr) (cap : Nat) (zs : List Int) (w : World) (hr : Row w ao zs) (ho : Octets zs) (hl : zs.length ≤ 1048576) :
    Calls Try.prog 41 #[.int .u32 c, .slice ao zs.length cap] w fun e w' => e = .returned (.int .u32 (Crc.cr (c ^^^ 4294967295) zs ^^^ 4294967295 : Nat)) ∧ w' = w := by
  have hn := not_any c c1
  have hn' : c ^^^ 4294967295 < 4294967296 := Nat.xor_lt_two_pow (n := 32) c1 (by decide)
  go_enter Try.func41, Try.ntmps41
  go_wp2_with fail
  go_loop [0, 11] (fun s i => ∃ k : Nat, k ≤ zs.length ∧ i = .int .i64 k ∧ s = .int .u32 (Crc.cr (c ^^^ 4294967295) (zs.take k) : Nat)) (fun _ i => zs.length - (intOf i).toNat)
  case atStart => exact ⟨0, Nat.zero_le _, rfl, congrArg (Value.int .u32) hn⟩
  case round =>
    obtain ⟨k, hk, rfl, rfl⟩ := hrel
    have hbd := Crc.cr_lt (c ^^^ 4294967295) (zs.take k) hn' (octets_take ho k)
    by_cases hlt : k < zs.length
    · have HN : Hid _ := cr_next (c ^^^ 4294967295) zs k hlt
      obtain ⟨b, off, rfl, hc⟩ := hr.at hlt
      have hck := hc k hlt
      have hy := ho.getD k
      clear hc hr ho
      have hx := xor_byte (Crc.cr (c ^^^ 4294967295) (zs.take k)) _ hbd hy
      generalize Crc.cr (c ^^^ 4294967295) (zs.take k) = s at *
      generalize zs.getD k 0 = y at *
      have HX : Hid _ := hx.1
      have hx2 := hx.2
      clear hx
      go_wp2_with fail
      rw [HX.out]
      refine (zeroByte_any _ hx2 _).mono ?_
      rintro e w' ⟨rfl, rfl⟩
      go_wp2_with fail
      go_round
      case rel => exact ⟨k + 1, by omega, by go_num, by rw [HN.out]; rfl⟩
      case measure => simp [intOf]; omega
    · have e : zs.take k = zs := List.take_of_length_le (by omega)
      rw [e] at hbd ⊢
      have hz := not_any _ hbd
      clear hr ho
      go_wp2_with fail
      go_ret
      exact ⟨ret_int hz, rfl⟩
def sliceLen : Value → Nat
  | .slice _ n _ => n
  | _ => 0

theorem raw_next (s t : Int) (zs : List Int) (k : Nat) (h : k < zs.length) :
    Adl.raw s t (zs.take (k + 1)) = ((Adl.raw s t (zs.take k)).1 + zs.getD k 0, (Adl.raw s t (zs.take k)).2 + ((Adl.raw s t (zs.take k)).1 + zs.getD k 0)) := by
  rw [take_next zs k h, Adl.raw_snoc]

set_option maxHeartbeats 1600000 in
/-- impl.adlerSum. -/
theorem adlerSum_any (a : Int) (a0 : 0 ≤ a) (a1 : a < 4294967296) (ao : Option Addr) (cap : Nat) (zs : List Int) (w : World) (hr : Row w ao zs) (ho : Octets zs) (hcap : zs.length ≤ cap) (hl : zs.length ≤ 1048576) :
    Calls Try.prog 35 #[.int .u32 a, .slice ao zs.length cap] w fun e w' => e = .returned (.int .u32 (Adl.whole (Adl.up (a % 65536 % 65521) (a / 65536 % 65521) zs))) ∧ w' = w := by
  go_enter Try.func35, Try.ntmps35
  go_wp2_with fail
  refine (halves_any a a0 a1 _).mono ?_
  rintro e w' ⟨rfl, rfl⟩
  go_wp2_with fail
  go_loop [1, 5, 6] (fun v s t => ∃ ao' cap' xs ys, zs = xs ++ ys ∧ v = .slice ao' ys.length cap' ∧ ys.length ≤ cap' ∧ Row w' ao' ys ∧ s = .int .u32 (Adl.up (a % 65536 % 65521) (a / 65536 % 65521) xs).1 ∧ t = .int .u32 (Adl.up (a % 65536 % 65521) (a / 65536 % 65521) xs).2) (fun v _ _ => sliceLen v)
  case atStart => exact ⟨ao, cap, [], zs, rfl, rfl, hcap, hr, rfl, rfl⟩
  case round =>
    clear hr hcap
    obtain ⟨ao, cap, xs, ys, rfl, rfl, hcap, hr, rfl, rfl⟩ := hrel
    have hbd := Adl.up_bd (a % 65536 % 65521) (a / 65536 % 65521) xs (by omega)
    by_cases hpos : 0 < ys.length
    · obtain ⟨b, off, rfl, hc⟩ := hr.at hpos
      obtain ⟨S, hS⟩ : ∃ S, Adl.up (a % 65536 % 65521) (a / 65536 % 65521) xs = S := ⟨_, rfl⟩
      have HS : Hid _ := hS
      have HR : Hid _ := hr
      rw [hS] at hbd ⊢
      clear hS hr
      have hoy : Hid (Octets ys) := fun z hz => ho z (List.mem_append_right _ hz)
      clear ho
      have hly : ys.length ≤ 1048576 := by rw [List.length_append] at hl; omega
      clear hl
      obtain ⟨s, t⟩ := S
      simp only at hbd ⊢
      by_cases hs : ys.length ≤ 5552
      · go_wp2_with fail
        go_loop [5, 6, 25] (fun p q i => ∃ j : Nat, j ≤ ys.length ∧ i = .int .i64 j ∧ p = .int .u32 (Adl.raw s t (ys.take j)).1 ∧ q = .int .u32 (Adl.raw s t (ys.take j)).2) (fun _ _ i => ys.length - (intOf i).toNat)
        case atStart => exact ⟨0, Nat.zero_le _, rfl, rfl, rfl⟩
        case round =>
          obtain ⟨j, hj, rfl, rfl, rfl⟩ := hrel
          have hb := Adl.raw_lt s t hbd (ys.take j) (octets_take hoy.out j) (by rw [List.length_take]; omega)
          by_cases hlt : j < ys.length
          · have hb2 := Adl.raw_lt s t hbd (ys.take (j + 1)) (octets_take hoy.out (j + 1)) (by rw [List.length_take]; omega)
            have hn := raw_next s t ys j (by omega)
            rw [hn] at hb2
            have HN : Hid _ := hn
            have hck := hc j (by omega)
            have hy := hoy.out.getD j
            clear hc hn
            generalize Adl.raw s t (ys.take j) = P at *
            generalize ys.getD j 0 = y at *
            obtain ⟨p, q⟩ := P
            simp only at hb hb2
            go_wp2_with fail
            go_round
            case rel => exact ⟨j + 1, by omega, by go_num, by rw [HN.out], by rw [HN.out]⟩
            case measure => simp [intOf]; omega
          · have e : j = ys.length := by omega
            subst e
            have hup := Adl.up_raw s t (ys.take ys.length) s t rfl rfl hbd
            have HU : Hid _ := hup
            clear hup hc
            have HB : Hid (0 ≤ (Adl.raw s t (ys.take ys.length)).1 ∧ 0 ≤ (Adl.raw s t (ys.take ys.length)).2) := ⟨hb.1, hb.2.2.1⟩
            generalize Adl.raw s t (ys.take ys.length) = P at *
            obtain ⟨p, q⟩ := P
            simp only at hb
            go_wp2_with fail
            have h1 : Adl.up (a % 65536 % 65521) (a / 65536 % 65521) (xs ++ ys) = (p % 65521, q % 65521) := by
              rw [Adl.up_append, HS.out]
              have := HU.out
              rwa [List.take_length] at this
            exact ⟨⟨_, _, xs ++ ys, [], by simp, rfl, by simp, Row.nil _ _, by rw [h1], by rw [h1]⟩, by simp [sliceLen]; omega⟩
      · obtain ⟨m, hm⟩ : ∃ m : Nat, m = 5552 := ⟨_, rfl⟩
        have hm1 : (5552 : Int) < ys.length := by omega
        go_wp2_with fail
        rw [← hm]
        have hma : (m : Int) ≤ 5552 := by omega
        have hmb : (5552 : Int) ≤ m := by omega
        have hmc : m < ys.length := by omega
        have HM : Hid (m = 5552) := hm
        rw [show (5552 : Int) = (m : Int) by omega]
        clear hm hm1
        go_loop [5, 6, 25] (fun p q i => ∃ j : Nat, j ≤ m ∧ i = .int .i64 j ∧ p = .int .u32 (Adl.raw s t (ys.take j)).1 ∧ q = .int .u32 (Adl.raw s t (ys.take j)).2) (fun _ _ i => m - (intOf i).toNat)
        case atStart => exact ⟨0, Nat.zero_le _, rfl, rfl, rfl⟩
        case round =>
          obtain ⟨j, hj, rfl, rfl, rfl⟩ := hrel
          have hb := Adl.raw_lt s t hbd (ys.take j) (octets_take hoy.out j) (by rw [List.length_take]; omega)
          by_cases hlt : j < m
          · have hb2 := Adl.raw_lt s t hbd (ys.take (j + 1)) (octets_take hoy.out (j + 1)) (by rw [List.length_take]; omega)
            have hn := raw_next s t ys j (by omega)
            rw [hn] at hb2
            have HN : Hid _ := hn
            have hck := hc j (by omega)
            have hy := hoy.out.getD j
            clear hc hn
            generalize Adl.raw s t (ys.take j) = P at *
            generalize ys.getD j 0 = y at *
            obtain ⟨p, q⟩ := P
            simp only at hb hb2
            clear hma hmb
            go_wp2_with fail
            go_round
            case rel => exact ⟨j + 1, by omega, by clear HN; go_num, by rw [HN.out], by rw [HN.out]⟩
            case measure => simp [intOf]; omega
          · have e : j = m := by omega
            rw [e]
            have hb := Adl.raw_lt s t hbd (ys.take m) (octets_take hoy.out m) (by rw [List.length_take]; omega)
            have hup := Adl.up_raw s t (ys.take m) s t rfl rfl hbd
            have HU : Hid _ := hup
            clear hup hc
            have HB : Hid (0 ≤ (Adl.raw s t (ys.take m)).1 ∧ 0 ≤ (Adl.raw s t (ys.take m)).2) := ⟨hb.1, hb.2.2.1⟩
            generalize Adl.raw s t (ys.take m) = P at *
            obtain ⟨p, q⟩ := P
            simp only at hb
            clear hma hmb
            go_wp2_with fail
            have hm := HM.out
            have h1 : Adl.up (a % 65536 % 65521) (a / 65536 % 65521) (xs ++ ys.take m) = (p % 65521, q % 65521) := by
              rw [Adl.up_append, HS.out]
              exact HU.out
            have hcut := Row.cut (cap := cap) (k := m) HR.out hcap
            have e2 : cutAt (some ⟨b, off, none⟩) cap m = some ⟨b, off + m, none⟩ := by
              unfold cutAt
              rw [if_neg (by omega)]
              simp [Addr.add_lit]
            rw [e2] at hcut
            have e3 : (ys.drop m).length = ys.length - m := by rw [List.length_drop]
            exact ⟨⟨some ⟨b, off + m, none⟩, cap - m, xs ++ ys.take m, ys.drop m, by simp, by rw [e3], by rw [e3]; omega, hcut, by rw [h1], by rw [h1]⟩, by simp only [sliceLen]; omega⟩
    · have e : ys = [] := List.length_eq_zero_iff.mp (by omega)
      subst e
      obtain ⟨S, hS⟩ : ∃ S, Adl.up (a % 65536 % 65521) (a / 65536 % 65521) xs = S := ⟨_, rfl⟩
      have HS : Hid _ := hS
      rw [hS] at hbd ⊢
      clear hS
      obtain ⟨s, t⟩ := S
      simp only at hbd ⊢
      clear hr ho
      go_wp2_with fail
      go_ret
      exact ⟨ret_int (by rw [HS.out, halves_or t s (by omega) (by omega) (by omega) (by omega)]; rfl), rfl⟩
end Go.Proofs.Ytmfacacpoajpgaa
