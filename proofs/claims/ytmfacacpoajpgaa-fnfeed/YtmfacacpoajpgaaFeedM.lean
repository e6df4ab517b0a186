import Derived.Test.YtmfacacpoajpgaaTakeI
import Derived.Test.YtmfacacpoajpgaaFeed
import Derived.Test.YtmfacacpoajpgaaCutL
namespace Go.Proofs.Ytmfacacpoajpgaa
open Go.RowKit

/-- What a reader holds of the text after f bytes came in and 'at' bits were taken. -/
def rd (zs : List Int) (f at_ : Nat) : List Int := (zs.take f).drop (at_ / 8)

theorem rd_len (zs : List Int) (f at_ : Nat) (hf : f ≤ zs.length) : (rd zs f at_).length = f - at_ / 8 := by
  unfold rd
  rw [List.length_drop, List.length_take]
  omega

theorem rd_octets {zs : List Int} (h : Octets zs) (f at_ : Nat) : Octets (rd zs f at_) := (h.take f).drop _

theorem rd_vld (zs : List Int) (f at_ : Nat) (hf : f ≤ zs.length) (hz : zs.length ≤ 1000) (ha : at_ ≤ 8 * f) : vld (rd zs f at_).length ((at_ % 8 : Nat) : Int) (at_ : Int) = true := by
  refine (vld_true ?_).symm
  rw [rd_len zs f at_ hf]
  omega

theorem rd_feed (zs : List Int) (f at_ : Nat) (cs : List Int) (rest : List Int) (hf : f ≤ zs.length) (ha : at_ ≤ 8 * f) (hz : zs = zs.take f ++ (cs ++ rest)) : rd zs f at_ ++ cs = rd zs (f + cs.length) at_ := by
  have h : zs.take (f + cs.length) = zs.take f ++ cs := by
    have hl : (zs.take f).length = f := by rw [List.length_take]; omega
    conv => lhs; rw [hz, ← List.append_assoc]
    have : f + cs.length = (zs.take f ++ cs).length := by rw [List.length_append, hl]
    rw [this, List.take_left']
    rfl
  unfold rd
  rw [h, List.drop_append_of_le_length (by rw [List.length_take]; omega)]

theorem rd_has (zs : List Int) (f at_ n : Nat) (hf : f ≤ zs.length) (hz : zs.length ≤ 1000) (ha : at_ ≤ 8 * f) (hn : n ≤ 32) : tkOk (rd zs f at_) ((at_ % 8 : Nat) : Int) (at_ : Int) (n : Int) = decide ((n : Int) ≤ 8 * (f : Int) - (at_ : Int)) := by
  unfold tkOk hasB
  rw [rd_len zs f at_ hf]
  by_cases h : (n : Int) ≤ 8 * (f : Int) - (at_ : Int)
  · rw [decide_eq_true h]
    apply decide_eq_true
    refine ⟨by omega, by omega, decide_eq_true ?_⟩
    omega
  · rw [decide_eq_false h]
    apply decide_eq_false
    rintro ⟨_, _, h3⟩
    have := of_decide_eq_true h3
    omega

theorem rd_drop (zs : List Int) (f at_ n : Nat) : (rd zs f at_).drop ((((at_ % 8 : Nat) : Int) + (n : Int)) / 8).toNat = rd zs f (at_ + n) := by
  unfold rd
  rw [List.drop_drop]
  congr 1
  omega

theorem rd_field (zs : List Int) (hz : Octets zs) (f at_ n : Nat) (hf : f ≤ zs.length) (h : at_ + n ≤ 8 * f) : field (bnum (rd zs f at_)) (at_ % 8) n = field (bnum zs) at_ n := by
  have h1 := bnum_low zs f at_ n h
  have hq : at_ / 8 ≤ (zs.take f).length := by rw [List.length_take]; omega
  have hoP := hz.take f
  unfold field
  rw [← h1]
  unfold rd
  generalize zs.take f = P at *
  have hsplit : bnum P = bnum (P.take (at_ / 8)) + 256 ^ (at_ / 8) * bnum (P.drop (at_ / 8)) := by
    have h2 := bnum_append (P.take (at_ / 8)) (P.drop (at_ / 8))
    rw [List.take_append_drop, List.length_take, Nat.min_eq_left hq] at h2
    exact h2
  have hlt : bnum (P.take (at_ / 8)) < 256 ^ (at_ / 8) := by
    have h3 := bnum_lt _ (hoP.take (at_ / 8))
    rwa [List.length_take, Nat.min_eq_left hq] at h3
  have hp : (0 : Nat) < 256 ^ (at_ / 8) := Nat.lt_of_le_of_lt (Nat.zero_le _) hlt
  have hdiv : bnum P / 256 ^ (at_ / 8) = bnum (P.drop (at_ / 8)) := by
    rw [hsplit, Nat.add_mul_div_left _ _ hp, Nat.div_eq_of_lt hlt, Nat.zero_add]
  have hpow : (2 : Nat) ^ at_ = 256 ^ (at_ / 8) * 2 ^ (at_ % 8) := by
    rw [two56, ← Nat.pow_add]
    congr 1
    omega
  rw [hpow, ← Nat.div_div_eq_div_mul, hdiv]

theorem bit_eq (x : Int) (s : Nat) (x0 : 0 ≤ x) (x1 : x ≤ 255) : (IntKind.u64.wrap (x / 2 ^ s)).tmod 2 = ((x.toNat / 2 ^ s % 2 : Nat) : Int) := by
  obtain ⟨X, rfl⟩ := Int.eq_ofNat_of_zero_le x0
  have e : (X : Int) / 2 ^ s = ((X / 2 ^ s : Nat) : Int) := by rw [pow_int]; simp
  have hd : X / 2 ^ s ≤ X := Nat.div_le_self _ _
  rw [e, Int.toNat_natCast]
  generalize X / 2 ^ s = Y at *
  have hw : IntKind.u64.wrap (Y : Int) = (Y : Int) := by rw [IntKind.wrap_u64]; omega
  rw [hw, Int.tmod_eq_emod_of_nonneg (by omega)]
  omega

/-- The chunks so far. -/
theorem flat_take_succ (ps : List Piece) (k : Nat) (h : k < ps.length) : flat (ps.take (k + 1)) = flat (ps.take k) ++ (ps[k]'h).2.2 := by
  rw [List.take_succ_eq_append_getElem h, flat_snoc]
theorem flat_take_drop (ps : List Piece) (k : Nat) : flat ps = flat (ps.take k) ++ flat (ps.drop k) := by
  unfold flat
  rw [← List.flatten_append, ← List.map_append, List.take_append_drop]
theorem flat_take (ps : List Piece) (k : Nat) : (flat ps).take (flat (ps.take k)).length = flat (ps.take k) := by
  rw [flat_take_drop ps k, List.take_left']
  rfl
theorem flat_take_le (ps : List Piece) (k : Nat) : (flat (ps.take k)).length ≤ (flat ps).length := by
  rw [flat_take_drop ps k, List.length_append]
  omega
end Go.Proofs.Ytmfacacpoajpgaa
