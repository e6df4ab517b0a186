import Derived.Test.YtpbchecindmfeaaFixS
namespace Go.Proofs.Ytpbchecindmfeaa
open Go.RowKit
attribute [local go_sem ↓] Go.wp_at_zero Go.wp_at_succ
set_option linter.unusedVariables false

theorem ownB3 (w : World) (a b c : Int) : OwnsB 5 w.heap.size (w.alloc (.cells #[.int .u8 a, .int .u8 b, .int .u8 c] 5)) (some ⟨w.heap.size, 0, none⟩) 3 [a, b, c] :=
  World.ownsRow_lit w #[.int .u8 a, .int .u8 b, .int .u8 c] 3 (Nat.le_refl _) (by unfold maxLen; omega) rfl
theorem fixB0 (zs : List Int) : ib (fixB zs 0) = [1, 1, 0] := by
  show ib ([] ++ bitsOf 1 1 ++ bitsOf 1 2) = _
  decide +kernel
theorem Codes.beneath2 {w w' : World} {B g n : Nat} {F : Nat → Nat × Nat} (h : Codes w g n F) (hb : Below B w w') (hg : g < B) : Codes w' g n F :=
  ⟨Nat.lt_of_lt_of_le h.lt hb.size, fun i hi => (hb.cell (p := ⟨g, i * 2, none⟩) hg).trans (h.at0 i hi), fun i hi => (hb.cell (p := ⟨g, i * 2 + 1, none⟩) hg).trans (h.at1 i hi), fun o => (hb.frozen (p := ⟨g, o, none⟩) hg).trans (h.free o)⟩
set_option maxRecDepth 100000 in
set_option maxHeartbeats 6400000 in
theorem sencF_yes (ao : Option Addr) (cap : Nat) (zs : List Int) (w : World) (hr : Row w ao zs) (hoct : Octets zs) (hl : zs.length ≤ 100000) :
    Calls Try.prog 11 #[.slice ao zs.length cap] w fun e w' => Go.Proofs.Ytpbchecindmfeaa.Code w w' (pk (fixAll zs)) e := by
  have HR := hideH hr
  have HOCT := hideH hoct
  have HF := hideH (l5Fixed_any w)
  clear hr hoct
  go_enter Try.func11, Try.ntmps11
  go_wp2_with fail
  refine Calls.mono HF.out ?_
  rintro e w1 ⟨gF, cF, vF, rfl, ho1, hb1⟩
  have HC := hideH (scodes_any (some ⟨gF, 0, none⟩) cF F288 w1 (Row64.owned ho1) (by rw [F288_len]; decide))
  have HB1 := hideH hb1
  clear ho1 hb1 HF
  go_wp2_with fail
  refine Calls.mono HC.out ?_
  rintro e w2 ⟨⟨aC, cC, rfl, hRC⟩, hb2⟩
  have hB2 := HB1.out.trans (hb2.mono HB1.out.size)
  have HB2 := hideH hB2
  obtain ⟨gC, rfl, hgB, hCd⟩ := hRC (by rw [F288_nC]; decide)
  have HCD := hideH hCd
  obtain ⟨nN, hnN⟩ : ∃ n, nC F288 = n := ⟨_, rfl⟩
  have hn288 : 288 ≤ nN := by rw [← hnN, F288_nC]; exact Nat.le_refl _
  rw [hnN] at HCD ⊢
  have hgw := hCd.lt
  have hwp := HB2.out.size
  clear hCd hRC hb2 hB2 HC hnN HB1
  have HO3 : Hid (OwnsB 5 w2.heap.size (w2.alloc (.cells #[.int .u8 1, .int .u8 1, .int .u8 0] 5)) (some ⟨w2.heap.size, 0, none⟩) 3 (ib (fixB zs 0))) := by
    show OwnsB _ _ _ _ _ _
    rw [fixB0]
    exact ownB3 w2 1 1 0
  have HBA : Hid (Below w2.heap.size w2 (w2.alloc (.cells #[.int .u8 1, .int .u8 1, .int .u8 0] 5))) := (Below.refl _ _).alloc (Nat.le_refl _) _
  go_wp2_with fail
  go_loopw [6, 7] (fun v i wr => ∃ (k : Nat) (a6 : Option Addr) (c6 : Nat) (Z : List Int), k ≤ zs.length ∧ i = .int .i64 k ∧ v = .slice a6 Z.length c6 ∧ Hid (Z = ib (fixB zs k)) ∧ Hid (OwnsB 5 w2.heap.size wr a6 c6 Z) ∧ Hid (Below w2.heap.size w2 wr)) (fun _ i _ => zs.length - (intOf i).toNat)
  case atStart => exact ⟨0, _, 3, ib (fixB zs 0), Nat.zero_le _, rfl, rfl, rfl, HO3, HBA⟩
  case round =>
    clear HO3 HBA
    obtain ⟨k, a6, c6, Z, hk, rfl, rfl, HZ, HO, HB⟩ := hrel
    have HCr := hideH (HCD.out.beneath2 HB.out hgw)
    have HBr := hideH (HB2.out.trans (HB.out.mono hwp))
    have hBw := HB.out.size
    by_cases hlt : k < zs.length
    · obtain ⟨b, off, rfl, hcz⟩ := HR.out.at hlt
      have hbw : b < w.heap.size := World.block_lt_of_cell? w _ (hcz k hlt)
      have cz := (HBr.out.cell (p := ⟨b, off + k, none⟩) hbw).trans (hcz k hlt)
      have hz := HOCT.out.getD k
      obtain ⟨Zb, hZb⟩ : ∃ Z : Nat, zs.getD k 0 = Z := ⟨(zs.getD k 0).toNat, by omega⟩
      rw [hZb] at cz hz
      have hZ1 : Zb ≤ 255 := by omega
      have HFB : Hid (fixB zs (k + 1) = fixB zs k ++ bitsOf (code F288 Zb).2 (code F288 Zb).1) := by show _ = _; rw [fixB, hZb]; rfl
      have x0 := HCr.out.at0 Zb (by omega)
      have x1 := HCr.out.at1 Zb (by omega)
      have hX9 := code_len Zb
      have hY64 := code_bits Zb
      generalize (code F288 Zb).1 = X at *
      generalize (code F288 Zb).2 = Y at *
      have hfl := fixB_len zs k
      have hZn : (Zb : Int) < (nN : Int) := by omega
      have hZ0 : (0 : Int) ≤ (Zb : Int) := by omega
      have hgr : gC < wr.heap.size := by omega
      have hZe := HZ.out
      subst hZe
      have HP := hideH (fun A t => l5Put_any w2.heap.size a6 c6 Y X (fixB zs k) (wr.alloc (.cells A t)) (HO.out.below ((Below.refl _ _).alloc (Nat.le_refl _) _)) (by simp; omega) (by omega) hY64 (by omega))
      have HBA := hideH (fun A t => HB.out.trans (((Below.refl wr.heap.size wr).alloc (Nat.le_refl _) (.cells A t)).mono hBw))
      clear hcz hZb hz hfl hY64
      go_wp2_with fail
      refine Calls.mono (HP.out _ _) ?_
      rintro e w7 ⟨a7, c7, rfl, ho7, hb7⟩
      rw [← HFB.out] at ho7 ⊢
      have HO7 := hideH ho7
      have HB7 := hideH ((HBA.out _ _).trans hb7)
      clear ho7 hb7 HP HBA
      go_wp2_with fail
      exact ⟨⟨k + 1, a7, c7, ib (fixB zs (k + 1)), by omega, by go_num, rfl, rfl, HO7, HB7⟩, by simp [intOf]; omega⟩
    · have e : k = zs.length := by omega
      subst e
      have x0 : wr.cell? ⟨gC, 512, none⟩ = some (.int .i64 ((code F288 256).1 : Nat)) := HCr.out.at0 256 (by omega)
      have x1 : wr.cell? ⟨gC, 513, none⟩ = some (.int .u64 ((code F288 256).2 : Nat)) := HCr.out.at1 256 (by omega)
      have HFB : Hid (fixAll zs = fixB zs zs.length ++ bitsOf (code F288 256).2 (code F288 256).1) := rfl
      have hX9 := code_len 256
      have hY64 := code_bits 256
      generalize (code F288 256).1 = X at *
      generalize (code F288 256).2 = Y at *
      have hfl := fixB_len zs zs.length
      have hgr : gC < wr.heap.size := by omega
      have hZn : (256 : Int) < (nN : Int) := by omega
      have hZe := HZ.out
      subst hZe
      have HP := hideH (l5Put_any w2.heap.size a6 c6 Y X (fixB zs zs.length) wr.drew (HO.out.below ((Below.refl _ _).drew)) hBw (by omega) hY64 (by omega))
      have hbin : Bin (fixAll zs) := by rw [HFB.out]; exact (fixB_bin zs zs.length).app (bitsOf_bin _ _)
      have hlen : (fixAll zs).length ≤ 2000000 := by rw [HFB.out, List.length_append, bitsOf_len]; omega
      have HQ := hideH (fun W a c (h : Row W a (ib (fixAll zs))) => l5Bytes_any a c (fixAll zs) W h hbin hlen)
      rw [← HFB.out] at HP
      clear hfl hY64 hbin hlen
      go_upto_region 11 with fail
      go_region_held3 (fun w' => w'.cell? ⟨gC, 512, none⟩ = some (.int .i64 X) ∧ w'.cell? ⟨gC, 513, none⟩ = some (.int .u64 Y))
        (first | (refine ⟨?_, ?_⟩ <;> with_reducible assumption) | (go_keep; done))
        (first
          | (go_at_call 16; refine Calls.mono HP.out ?_; rintro e w7 ⟨a7, c7, rfl, ho7, hb7⟩; have q0 := (hb7.cell (p := ⟨gC, 512, none⟩) hgw).trans (show wr.drew.cell? ⟨gC, 512, none⟩ = some (.int .i64 X) from x0); have q1 := (hb7.cell (p := ⟨gC, 513, none⟩) hgw).trans (show wr.drew.cell? ⟨gC, 513, none⟩ = some (.int .u64 Y) from x1); have hm7 := ho7.mine; have hs7 : w2.heap.size ≤ w7.heap.size := (Nat.le_trans hBw hb7.size))
          | (go_at_call 17; refine Calls.mono (HQ.out _ _ _ hm7.row) ?_; rintro e w9 ⟨a9, c9, rfl, ho9, hb9⟩; have s0 := (hb9.cell (p := ⟨gC, 512, none⟩) (Nat.lt_of_lt_of_le hgw hs7)).trans q0; have s1 := (hb9.cell (p := ⟨gC, 513, none⟩) (Nat.lt_of_lt_of_le hgw hs7)).trans q1))
      have hB9 : Below w2.heap.size w2 w9 := ((HB.out.drew).trans hb7).trans (hb9.mono hs7)
      have HB9 := hideH (HB2.out.trans (hB9.mono hwp))
      have HO9 := hideH (OwnsB.mono ho9 (Nat.le_trans hwp hs7))
      clear ho9 hb9 hb7 hB9 hm7
      go_wp2_with fail
      go_ret
      exact ⟨a9, c9, rfl, HO9.out, HB9.out⟩
theorem sencF_any (ao : Option Addr) (cap : Nat) (zs : List Int) (w : World) (hr : Row w ao zs) (hoct : Octets zs) (hl : zs.length ≤ 1048576) :
    Calls Try.prog 11 #[.slice ao zs.length cap] w fun e w' => Go.Proofs.Ytpbchecindmfeaa.Code w w' (encF zs) e := by
  by_cases h : 100000 < zs.length
  · rw [encF_no h]
    have hb : (100000 : Int) < (zs.length : Int) := by omega
    have HO0 : Hid (OwnsB 5 w.heap.size (w.alloc (.cells #[] 5)) (some ⟨w.heap.size, 0, none⟩) 0 []) := World.ownsRow_lit w #[] 0 (Nat.le_refl _) (by unfold maxLen; omega) rfl
    have HB0 : Hid (Below w.heap.size w (w.alloc (.cells #[] 5))) := (Below.refl _ _).alloc (Nat.le_refl _) _
    go_enter Try.func11, Try.ntmps11
    go_wp2_with fail
    go_ret
    exact ⟨_, _, rfl, HO0.out, HB0.out⟩
  · rw [encF_yes (by omega)]
    exact sencF_yes ao cap zs w hr hoct (by omega)
end Go.Proofs.Ytpbchecindmfeaa
