import Derived.Test.YtpbchecindmfeaaFixM
namespace Go.Proofs.Ytpbchecindmfeaa
open Go.RowKit
attribute [local go_sem ↓] Go.wp_at_zero Go.wp_at_succ
set_option linter.unusedVariables false

theorem BW.new (w : World) (t : TypeId) : BW (w.alloc (.cells #[.slice none 0 0, .int .i64 0] t)) w.heap.size [] :=
  ⟨⟨none, 0, by simp [go_sem]; rfl, World.ownsRow_nil _ _ _ _⟩, by simp [go_sem], by simp [go_sem], by simp [go_sem]⟩
/-- Codes below p stay. -/
theorem Codes.beneath {w w' : World} {B g n : Nat} {F : Nat → Nat × Nat} (h : Codes w g n F) (hb : Below B w w') (hg : g < B) : Codes w' g n F :=
  ⟨Nat.lt_of_lt_of_le h.lt hb.size, fun i hi => (hb.cell (p := ⟨g, i * 2, none⟩) hg).trans (h.at0 i hi), fun i hi => (hb.cell (p := ⟨g, i * 2 + 1, none⟩) hg).trans (h.at1 i hi), fun o => (hb.frozen (p := ⟨g, o, none⟩) hg).trans (h.free o)⟩
set_option maxRecDepth 100000 in
set_option maxHeartbeats 6400000 in
theorem iencF_yes (ao : Option Addr) (cap : Nat) (zs : List Int) (w : World) (hr : Row w ao zs) (hoct : Octets zs) (hl : zs.length ≤ 100000) :
    Calls Try.prog 12 #[.slice ao zs.length cap] w fun e w' => Go.Proofs.Ytpbchecindmfeaa.Code w w' (pk (fixAll zs)) e := by
  have HR := hideH hr
  have HOCT := hideH hoct
  have HF := hideH (fixedLits_any w)
  clear hr hoct
  go_enter Try.func12, Try.ntmps12
  go_wp2_with fail
  refine Calls.mono HF.out ?_
  rintro e w1 ⟨gF, cF, rfl, ho1, hb1⟩
  have HC := hideH (icodes_any (some ⟨gF, 0, none⟩) cF F288 w1 (Row64.owned ho1) (by rw [F288_len]; decide))
  have HB1 := hideH hb1
  clear ho1 hb1 HF
  go_wp2_with fail
  refine Calls.mono HC.out ?_
  rintro e w2 ⟨⟨aC, cC, rfl, hRC⟩, hb2⟩
  have hB2 := HB1.out.trans (hb2.mono HB1.out.size)
  have HB2 := hideH hB2
  obtain ⟨gC, rfl, hgB, hCd⟩ := hRC (by rw [F288_nC]; decide)
  have HCD := hideH hCd
  obtain ⟨nN, hnN⟩ : ∃ n, nC F288 = n := ⟨_, rfl⟩
  have hn288 : 288 ≤ nN := by rw [← hnN, F288_nC]; exact Nat.le_refl _
  rw [hnN] at HCD ⊢
  have hgw := hCd.lt
  clear hCd hRC hb2 hB2 HC hnN HB1
  have HP1 := hideH (bitput_any w2.heap.size 1 1 [] (w2.alloc (.cells #[.slice none 0 0, .int .i64 0] 42)) (BW.new w2 _) (fun b hb => by cases hb) (by decide) (by decide) (by simp))
  have HBA : Hid (Below w2.heap.size w2 (w2.alloc (.cells #[.slice none 0 0, .int .i64 0] 42))) := (Below.refl _ _).alloc (Nat.le_refl _) _
  obtain ⟨w3, hw3⟩ : ∃ w3, w2.alloc (.cells #[.slice none 0 0, .int .i64 0] 42) = w3 := ⟨_, rfl⟩
  rw [hw3] at HP1 HBA
  go_wp2_with fail
  refine Calls.mono HP1.out ?_
  rintro e w4 ⟨rfl, hW4, hb4⟩
  have hwp := HB2.out.size
  have HB3 := hideH (HB2.out.trans (HBA.out.mono hwp))
  have HCD3 := hideH (HCD.out.beneath HBA.out hgw)
  have HP2 := hideH (bitput_any w2.heap.size 1 2 ([] ++ bitsOf 1 1) w4 hW4 ((Bin.app (fun b hb => by cases hb) (bitsOf_bin 1 1))) (by decide) (by decide) (by simp [bitsOf_len]))
  have HB4 := hideH hb4
  clear hW4 hb4 HP1 HB2 HCD HBA hw3
  generalize w2.heap.size = p at *
  go_wp2_with fail
  refine Calls.mono HP2.out ?_
  rintro e w5 ⟨rfl, hW5, hb5⟩
  have HW5 := hideH hW5
  have HB5 := hideH (HB4.out.trans hb5)
  clear hW5 hb5 HP2 HB4
  go_wp2_with fail
  go_loopw [20] (fun i wr => ∃ k : Nat, k ≤ zs.length ∧ i = .int .i64 k ∧ Hid (BW wr p (fixB zs k)) ∧ Hid (Below p w3 wr)) (fun i _ => zs.length - (intOf i).toNat)
  case atStart => exact ⟨0, Nat.zero_le _, rfl, HW5, HB5⟩
  case round =>
    clear HW5 HB5
    obtain ⟨k, hk, rfl, HW, HB⟩ := hrel
    have HCr := hideH (HCD3.out.beneath HB.out hgw)
    have HBr := hideH (HB3.out.trans (HB.out.mono hwp))
    by_cases hlt : k < zs.length
    · obtain ⟨b, off, rfl, hcz⟩ := HR.out.at hlt
      have hbw : b < w.heap.size := World.block_lt_of_cell? w _ (hcz k hlt)
      have cz := (HBr.out.cell (p := ⟨b, off + k, none⟩) hbw).trans (hcz k hlt)
      have hz := HOCT.out.getD k
      obtain ⟨Zb, hZb⟩ : ∃ Z : Nat, zs.getD k 0 = Z := ⟨(zs.getD k 0).toNat, by omega⟩
      rw [hZb] at cz hz
      have hZ1 : Zb ≤ 255 := by omega
      have HFB : Hid (fixB zs (k + 1) = fixB zs k ++ bitsOf (code F288 Zb).2 (code F288 Zb).1) := by show _ = _; rw [fixB, hZb]; rfl
      have x0 := HCr.out.at0 Zb (by omega)
      have x1 := HCr.out.at1 Zb (by omega)
      have hX9 := code_len Zb
      have hY64 := code_bits Zb
      generalize (code F288 Zb).1 = X at *
      generalize (code F288 Zb).2 = Y at *
      have hfl := fixB_len zs k
      have HP := hideH (fun W (h : BW W p (fixB zs k)) => bitput_any p Y X (fixB zs k) W h (fixB_bin zs k) (by omega) hY64 (by omega))
      have hpw := HW.out.lt
      have hgr : gC < wr.heap.size := by omega
      have hZn : (Zb : Int) < (nN : Int) := by omega
      have hZ0 : (0 : Int) ≤ (Zb : Int) := by omega
      clear hcz hZb hz hfl hY64
      go_upto_region 10 with fail
      go_region_held3 (fun w' => w'.cell? ⟨gC, Zb * 2, none⟩ = some (.int .i64 X) ∧ w'.cell? ⟨gC, Zb * 2 + 1, none⟩ = some (.int .u64 Y))
        (first | (refine ⟨?_, ?_⟩ <;> with_reducible assumption) | (go_keep; done))
        ((go_at_call 20; refine Calls.mono (HP.out _ (HW.out.below ((Below.refl _ _).drew))) ?_; rintro e w7 ⟨rfl, hW7, hB7⟩; have q0 := (hB7.cell (p := ⟨gC, Zb * 2, none⟩) hgw).trans (show wr.drew.cell? ⟨gC, Zb * 2, none⟩ = some (.int .i64 X) from x0); have q1 := (hB7.cell (p := ⟨gC, Zb * 2 + 1, none⟩) hgw).trans (show wr.drew.cell? ⟨gC, Zb * 2 + 1, none⟩ = some (.int .u64 Y) from x1)))
      have HW7 : Hid (BW w7 p (fixB zs (k + 1))) := by show BW _ _ _; rw [HFB.out]; exact hW7
      have HB7 : Hid (Below p w3 w7) := (HB.out.drew).trans hB7
      clear hW7 hB7
      go_wp2_with fail
      exact ⟨⟨k + 1, by omega, by go_num, HW7, HB7⟩, by simp [intOf]; omega⟩
    · have e : k = zs.length := by omega
      subst e
      have x0 : wr.cell? ⟨gC, 512, none⟩ = some (.int .i64 ((code F288 256).1 : Nat)) := HCr.out.at0 256 (by omega)
      have x1 : wr.cell? ⟨gC, 513, none⟩ = some (.int .u64 ((code F288 256).2 : Nat)) := HCr.out.at1 256 (by omega)
      have HFB : Hid (fixAll zs = fixB zs zs.length ++ bitsOf (code F288 256).2 (code F288 256).1) := rfl
      have hX9 := code_len 256
      have hY64 := code_bits 256
      generalize (code F288 256).1 = X at *
      generalize (code F288 256).2 = Y at *
      have hfl := fixB_len zs zs.length
      have HP := hideH (fun W (h : BW W p (fixB zs zs.length)) => bitput_any p Y X (fixB zs zs.length) W h (fixB_bin zs zs.length) (by omega) hY64 (by omega))
      have hpw := HW.out.lt
      have hgr : gC < wr.heap.size := by omega
      have hZn : (256 : Int) < (nN : Int) := by omega
      clear hfl hY64
      go_upto_region 12 with fail
      go_region_held3 (fun w' => w'.cell? ⟨gC, 512, none⟩ = some (.int .i64 X) ∧ w'.cell? ⟨gC, 513, none⟩ = some (.int .u64 Y))
        (first | (refine ⟨?_, ?_⟩ <;> with_reducible assumption) | (go_keep; done))
        ((go_at_call 20; refine Calls.mono (HP.out _ (HW.out.below ((Below.refl _ _).drew))) ?_; rintro e w7 ⟨rfl, hW7, hB7⟩; have q0 := (hB7.cell (p := ⟨gC, 512, none⟩) hgw).trans (show wr.drew.cell? ⟨gC, 512, none⟩ = some (.int .i64 X) from x0); have q1 := (hB7.cell (p := ⟨gC, 513, none⟩) hgw).trans (show wr.drew.cell? ⟨gC, 513, none⟩ = some (.int .u64 Y) from x1)))
      have hW8 : BW w7 p (fixAll zs) := by rw [HFB.out]; exact hW7
      have HB7 := hideH (HBr.out.trans (((Below.refl p wr).drew.trans hB7).mono hwp))
      obtain ⟨⟨a8, c8, d0, ho8⟩, _⟩ := hW8
      have HO8 := hideH (ho8.mono (show w.heap.size ≤ p + 1 by omega))
      have hpw7 : p < w7.heap.size := World.block_lt_of_cell? w7 _ d0
      clear hW7 hB7 ho8 q0 q1
      go_wp2_with fail
      go_ret
      exact ⟨a8, c8, rfl, HO8.out, HB7.out⟩
theorem iencF_any (ao : Option Addr) (cap : Nat) (zs : List Int) (w : World) (hr : Row w ao zs) (hoct : Octets zs) (hl : zs.length ≤ 1048576) :
    Calls Try.prog 12 #[.slice ao zs.length cap] w fun e w' => Go.Proofs.Ytpbchecindmfeaa.Code w w' (encF zs) e := by
  by_cases h : 100000 < zs.length
  · rw [encF_no h]
    have hb : (100000 : Int) < (zs.length : Int) := by omega
    go_enter Try.func12, Try.ntmps12
    go_wp2_with fail
    go_ret
    exact ⟨none, 0, rfl, World.ownsRow_nil _ _ _ _, Below.refl _ _⟩
  · rw [encF_yes (by omega)]
    exact iencF_yes ao cap zs w hr hoct (by omega)
end Go.Proofs.Ytpbchecindmfeaa
