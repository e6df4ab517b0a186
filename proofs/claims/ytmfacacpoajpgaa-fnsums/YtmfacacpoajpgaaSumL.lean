import Derived.Test.YtmfacacpoajpgaaSumS
import Derived.Test.YtmfacacpoajpgaaDraw
import Derived.Test.YtmfacacpoajpgaaOwn
namespace Go.Proofs.Ytmfacacpoajpgaa
open Go.RowKit
attribute [local go_sem ↓] Go.wp_at_zero Go.wp_at_succ

/-- The sum of a text. -/
def Adl.adl (zs : List Int) : Int := Adl.whole (Adl.up 1 0 zs)
theorem adl_bd (zs : List Int) : 0 ≤ Adl.adl zs ∧ Adl.adl zs < 4294967296 := (Adl.whole_lo _ (Adl.up_bd 1 0 zs (by omega))).2.2
theorem adl_lo (zs : List Int) : Adl.adl zs % 65536 % 65521 = (Adl.up 1 0 zs).1 ∧ Adl.adl zs / 65536 % 65521 = (Adl.up 1 0 zs).2 :=
  ⟨(Adl.whole_lo _ (Adl.up_bd 1 0 zs (by omega))).1, (Adl.whole_lo _ (Adl.up_bd 1 0 zs (by omega))).2.1⟩
theorem crc_lt (zs : List Int) (h : Octets zs) : Crc.crc zs < 4294967296 := Nat.xor_lt_two_pow (n := 32) (Crc.cr_lt _ zs (by decide) h) (by decide)

/-- laws.lwAt, in front of the end or behind: a byte. -/
theorem lwAt_any (co : Option Addr) (cc : Nat) (cs : List Int) (i : Nat) (w : World) (hr : Row w co cs) (ho : Octets cs) (hi : i ≤ 1048576) :
    Calls Try.prog 10 #[.slice co cs.length cc, .int .i64 i] w fun e w' => (∃ x : Int, e = .returned (.int .i64 x) ∧ 0 ≤ x ∧ x ≤ 255) ∧ w' = w := by
  by_cases hlt : i < cs.length
  · obtain ⟨b, off, rfl, hc⟩ := hr.at hlt
    have hck := hc i hlt
    have hy := ho.getD i
    clear hc hr ho
    generalize cs.getD i 0 = y at *
    go_enter Try.func10, Try.ntmps10
    go_wp2_with fail
    go_ret
    exact ⟨⟨y, rfl, hy⟩, rfl⟩
  · clear hr ho
    go_enter Try.func10, Try.ntmps10
    go_wp2_with fail
    go_ret
    exact ⟨⟨_, rfl, by omega⟩, rfl⟩

theorem sadl_any (ao : Option Addr) (cap : Nat) (zs : List Int) (w : World) (hr : Row w ao zs) (ho : Octets zs) (hl : zs.length ≤ 1048576) :
    Calls Try.prog 11 #[.int .u32 1, .slice ao zs.length cap] w fun e w' => e = .returned (.int .u32 (Adl.adl zs)) ∧ w' = w :=
  sadler_any 1 (by decide) (by decide) ao cap zs w hr ho hl
theorem scrc0_any (ao : Option Addr) (cap : Nat) (zs : List Int) (w : World) (hr : Row w ao zs) (ho : Octets zs) (hl : zs.length ≤ 1048576) :
    Calls Try.prog 12 #[.int .u32 0, .slice ao zs.length cap] w fun e w' => e = .returned (.int .u32 (Crc.crc zs : Nat)) ∧ w' = w := by
  have h := scrc_any 0 (by decide) ao cap zs w hr ho hl
  rw [Nat.zero_xor] at h
  exact h

/-- impl.AdlerUpdate, at a text of one part. -/
theorem aupd_any (a : Int) (a0 : 0 ≤ a) (a1 : a < 4294967296) (ao : Option Addr) (cap : Nat) (zs : List Int) (n : Nat) (hn : zs.length = n) (w : World) (hr : Row w ao zs) (ho : Octets zs) (hcap : zs.length ≤ cap) (hl : zs.length ≤ 65536) :
    Calls Try.prog 13 #[.int .u32 a, .slice ao n cap] w fun e w' => e = .returned (.int .u32 (Adl.whole (Adl.up (a % 65536 % 65521) (a / 65536 % 65521) zs))) ∧ w' = w := by
  subst hn
  go_enter Try.func13, Try.ntmps13
  go_wp2_with fail
  refine (adlerSum_any a a0 a1 ao cap zs _ hr ho hcap (by omega)).mono ?_
  rintro e w' ⟨rfl, rfl⟩
  go_wp2_with fail
  go_ret
  exact ⟨rfl, rfl⟩
theorem adl_first (ao : Option Addr) (cap : Nat) (zs : List Int) (n : Nat) (hn : zs.length = n) (w : World) (hr : Row w ao zs) (ho : Octets zs) (hcap : zs.length ≤ cap) (hl : zs.length ≤ 65536) :
    Calls Try.prog 13 #[.int .u32 1, .slice ao n cap] w fun e w' => e = .returned (.int .u32 (Adl.adl zs)) ∧ w' = w :=
  aupd_any 1 (by decide) (by decide) ao cap zs n hn w hr ho hcap hl
theorem adl_then (xs all : List Int) (ao : Option Addr) (cap : Nat) (zs : List Int) (n : Nat) (hn : zs.length = n) (hall : xs ++ zs = all) (w : World) (hr : Row w ao zs) (ho : Octets zs) (hcap : zs.length ≤ cap) (hl : zs.length ≤ 65536) :
    Calls Try.prog 13 #[.int .u32 (Adl.adl xs), .slice ao n cap] w fun e w' => e = .returned (.int .u32 (Adl.adl all)) ∧ w' = w := by
  have h := aupd_any (Adl.adl xs) (adl_bd xs).1 (adl_bd xs).2 ao cap zs n hn w hr ho hcap hl
  rw [(adl_lo xs).1, (adl_lo xs).2, ← Adl.up_append, hall] at h
  exact h
theorem adl_joined (xs ys all : List Int) (n : Nat) (hn : ys.length = n) (hall : xs ++ ys = all) (hl : n ≤ 1000000) (w : World) :
    Calls Try.prog 14 #[.int .u32 (Adl.adl xs), .int .u32 (Adl.adl ys), .int .i64 n] w fun e w' => e = .returned (.int .u32 (Adl.adl all)) ∧ w' = w := by
  subst hn
  have h := join_in (Adl.adl xs) (Adl.adl ys) ys.length (adl_bd xs).1 (adl_bd xs).2 (adl_bd ys).1 (adl_bd ys).2 (by omega) (by omega) w
  rw [(adl_lo xs).1, (adl_lo xs).2, (adl_lo ys).1, (adl_lo ys).2, Adl.join_eq, hall] at h
  exact h

/-- impl.CrcUpdate, at a short text. -/
theorem cupd_any (c : Nat) (c1 : c < 4294967296) (ao : Option Addr) (cap : Nat) (zs : List Int) (n : Nat) (hn : zs.length = n) (w : World) (hr : Row w ao zs) (ho : Octets zs) (hl : zs.length < 512) :
    Calls Try.prog 15 #[.int .u32 c, .slice ao n cap] w fun e w' => e = .returned (.int .u32 (Crc.cr (c ^^^ 4294967295) zs ^^^ 4294967295 : Nat)) ∧ w' = w := by
  subst hn
  have hi : (zs.length : Int) < 512 := by omega
  clear hl
  go_enter Try.func15, Try.ntmps15
  go_wp2_with fail
  refine (bitwise_any c c1 ao cap zs _ hr ho (by omega)).mono ?_
  rintro e w' ⟨rfl, rfl⟩
  go_wp2_with fail
  go_ret
  exact ⟨rfl, rfl⟩
theorem crc_first (ao : Option Addr) (cap : Nat) (zs : List Int) (n : Nat) (hn : zs.length = n) (w : World) (hr : Row w ao zs) (ho : Octets zs) (hl : zs.length < 512) :
    Calls Try.prog 15 #[.int .u32 0, .slice ao n cap] w fun e w' => e = .returned (.int .u32 (Crc.crc zs : Nat)) ∧ w' = w := by
  have h := cupd_any 0 (by decide) ao cap zs n hn w hr ho hl
  rw [Nat.zero_xor] at h
  exact h
theorem crc_then (xs all : List Int) (hx : Octets xs) (ao : Option Addr) (cap : Nat) (zs : List Int) (n : Nat) (hn : zs.length = n) (hall : xs ++ zs = all) (w : World) (hr : Row w ao zs) (ho : Octets zs) (hl : zs.length < 512) :
    Calls Try.prog 15 #[.int .u32 (Crc.crc xs : Nat), .slice ao n cap] w fun e w' => e = .returned (.int .u32 (Crc.crc all : Nat)) ∧ w' = w := by
  have h := cupd_any (Crc.crc xs) (crc_lt xs hx) ao cap zs n hn w hr ho hl
  have e : Crc.cr (Crc.crc xs ^^^ 4294967295) zs ^^^ 4294967295 = Crc.crc all := by
    subst hall
    unfold Crc.crc
    rw [Crc.xor_xor, ← Crc.cr_append]
  rw [e] at h
  exact h
theorem crc_joined (xs ys all : List Int) (hx : Octets xs) (hy : Octets ys) (n : Nat) (hn : ys.length = n) (hall : xs ++ ys = all) (hl : n ≤ 1000000) (w : World) :
    Calls Try.prog 16 #[.int .u32 (Crc.crc xs : Nat), .int .u32 (Crc.crc ys : Nat), .int .i64 n] w fun e w' => e = .returned (.int .u32 (Crc.crc all : Nat)) ∧ w' = w := by
  subst hn
  have h := cjoin_in (Crc.crc xs) (Crc.crc ys) ys.length (crc_lt xs hx) (crc_lt ys hy) hl w
  rw [Crc.join_eq, hall] at h
  exact h
end Go.Proofs.Ytmfacacpoajpgaa
