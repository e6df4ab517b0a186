import Derived.Test.YtpbchecindmfeaaEncI
namespace Go.Proofs.Ytpbchecindmfeaa
open Go.RowKit
attribute [local go_sem ↓] Go.wp_at_zero Go.wp_at_succ
set_option linter.unusedVariables false

/-- What EncodeStored answers. -/
def encR (per : Int) (zs : List Int) : List Int := if per < 1 ∨ 65535 < per ∨ 100000 < zs.length then [] else encS per.toNat zs
theorem encR_no {per : Int} {zs : List Int} (h : per < 1 ∨ 65535 < per ∨ 100000 < zs.length) : encR per zs = [] := if_pos h
theorem encR_yes {P : Nat} {zs : List Int} (h0 : 0 < P) (h1 : P ≤ 65535) (h2 : zs.length ≤ 100000) : encR P zs = encS P zs := by
  rw [encR, if_neg (by omega), Int.toNat_natCast]
theorem encR_len (per : Int) (zs : List Int) : (encR per zs).length ≤ 600005 := by
  by_cases h : per < 1 ∨ 65535 < per ∨ 100000 < zs.length
  · rw [encR_no h]; simp
  · rw [encR, if_neg h]
    have := encS_len per.toNat (by omega) zs.length zs (Nat.le_refl _)
    omega
theorem Code.none (w : World) : Code w w [] (.returned (.slice .none 0 0)) := ⟨.none, 0, rfl, World.ownsRow_nil _ _ _ _, Below.refl _ _⟩
set_option maxRecDepth 100000 in
set_option maxHeartbeats 6400000 in
theorem iencS_no (ao : Option Addr) (cap n : Nat) (per : Int) (w : World) (hn : n ≤ 9223372036854775807) (h : per < 1 ∨ 65535 < per ∨ 100000 < n) :
    Calls Try.prog 7 #[.slice ao n cap, .int .i64 per] w fun e w' => e = .returned (.slice none 0 0) ∧ w' = w := by
  by_cases h1 : per < 1
  · clear h
    go_enter Try.func7, Try.ntmps7
    go_wp2_with fail
    go_ret
    exact ⟨rfl, rfl⟩
  · by_cases h2 : 65535 < per
    · clear h
      go_enter Try.func7, Try.ntmps7
      go_wp2_with fail
      go_ret
      exact ⟨rfl, rfl⟩
    · have h3 : 100000 < n := by omega
      clear h
      go_enter Try.func7, Try.ntmps7
      go_wp2_with fail
      go_ret
      exact ⟨rfl, rfl⟩
set_option maxRecDepth 100000 in
set_option maxHeartbeats 6400000 in
theorem iencS_yes (ao : Option Addr) (cap : Nat) (zs : List Int) (P : Nat) (w : World) (hr : Row w ao zs) (hc : zs.length ≤ cap) (hcm : cap ≤ 9223372036854775807) (hnil : ao = none → zs.length = 0 ∧ cap = 0) (h0 : 0 < P) (h1 : P ≤ 65535) (h2 : zs.length ≤ 100000) :
    Calls Try.prog 7 #[.slice ao zs.length cap, .int .i64 P] w fun e w' => Code w w' (encS P zs) e := by
  have HR := hideE hr
  have HL := hideE (encS_len P h0 zs.length zs (Nat.le_refl _))
  have HNIL := hideE hnil
  clear hr hnil
  go_enter Try.func7, Try.ntmps7
  go_wp2_with fail
  go_loopw [0, 5] (fun d c wr => ∃ (co ao' : Option Addr) (cc cap' : Nat) (rest Z : List Int), d = .slice co rest.length cc ∧ c = .slice ao' Z.length cap' ∧ Hid (co = none → rest.length = 0 ∧ cc = 0) ∧ rest.length ≤ cc ∧ cc ≤ 9223372036854775807 ∧ rest.length ≤ 100000 ∧ Hid (OwnsB 5 w.heap.size wr ao' cap' Z) ∧ Hid (Row w co rest) ∧ Hid (Z ++ encS P rest = encS P zs) ∧ Hid (Below w.heap.size w wr)) (fun d _ _ => match d with | .slice _ n _ => n | _ => 0)
  case atStart => exact ⟨ao, none, cap, 0, zs, [], rfl, rfl, HNIL, hc, hcm, h2, World.ownsRow_nil _ _ _ _, HR, rfl, Below.refl _ _⟩
  case round =>
    obtain ⟨co, ao', cc, cap', rest, Z, rfl, rfl, HN2, hcc, hccm, hrl, HO, HR2, HE, HB⟩ := hrel
    by_cases hlt : P < rest.length
    · obtain ⟨b, off, rfl, hc1⟩ := HR2.out.at (k := 0) (by omega)
      have hbw : b < w.heap.size := World.block_lt_of_cell? w _ (hc1 0 (by omega))
      obtain ⟨T, hT⟩ : ∃ T, rest.take P = T := ⟨_, rfl⟩
      have hTl : T.length = P := by rw [← hT, List.length_take]; omega
      have hEl := congrArg List.length HE.out
      rw [List.length_append] at hEl
      have hZl : Z.length ≤ 1000000 := by have := HL.out; omega
      have HT := hideE hT
      have HC := hideE (appendStored_any w.heap.size ao' (some ⟨b, off, none⟩) cap' cc Z T 0 wr HO.out (by rw [← hT]; exact (HR2.out.below HB.out).taken P) (fun ad e _ => by cases e; exact hbw) (fun e => by cases e) HB.out.size hZl (by omega) (by omega))
      rw [hTl] at HC
      clear hEl hT hTl hc1
      go_wp2_with fail
      refine Calls.mono HC.out ?_
      rintro e w2 ⟨ao2, cap2, rfl, ho2, hb2⟩
      have HO2 := hideE ho2
      have HB2 := hideE (HB.out.trans hb2)
      have HE2 : Hid ((Z ++ blkS 0 T) ++ encS P (rest.drop P) = encS P zs) := by
        show _ = _
        rw [← HE.out, encS_more h0 hlt, List.append_assoc, HT.out]
      have HR3 := hideE (HR2.out.dropped P)
      obtain ⟨Z2, hZ2⟩ : ∃ Z2, Z ++ blkS 0 T = Z2 := ⟨_, rfl⟩
      obtain ⟨R2, hR2⟩ : ∃ R2, rest.drop P = R2 := ⟨_, rfl⟩
      have hR2l : R2.length = rest.length - P := by rw [← hR2, List.length_drop]
      rw [show ((0 : Nat) : Int) = 0 from rfl] at HO2 ⊢
      rw [hZ2] at HO2 HE2 ⊢
      rw [hR2] at HE2 HR3
      clear hR2 hZ2 ho2 hb2 HC HT
      have hne : ¬ cc = P := by omega
      have hsub : rest.length - P < rest.length := by omega
      go_wp2_with fail
      refine ⟨⟨some ⟨b, off + P, none⟩, ao2, cc - P, cap2, R2, Z2, by rw [hR2l], rfl, (fun e => by cases e), by omega, by omega, by omega, HO2, HR3, HE2, HB2⟩, hsub⟩
    · have HC := hideE (appendStored_any w.heap.size ao' co cap' cc Z rest 1 wr HO.out (HR2.out.below HB.out) (fun ad e h => by obtain ⟨b, off, e2, hc1⟩ := HR2.out.at h; have hbw := World.block_lt_of_cell? w _ (hc1 0 h); rw [e] at e2; cases e2; exact hbw) HN2.out HB.out.size (by have hEl := congrArg List.length HE.out; rw [List.length_append] at hEl; have := HL.out; omega) hrl (by omega))
      go_wp2_with fail
      refine Calls.mono HC.out ?_
      rintro e w2 ⟨ao2, cap2, rfl, ho2, hb2⟩
      have HO2 := hideE ho2
      have HB2 := hideE (HB.out.trans hb2)
      have HE2 : Z ++ blkS 1 rest = encS P zs := by
        rw [← HE.out, encS_last (by omega)]
      rw [show ((1 : Nat) : Int) = 1 from rfl, HE2] at HO2 ⊢
      clear HE2 ho2 hb2 HC
      go_wp2_with fail
      go_ret
      exact ⟨ao2, cap2, rfl, HO2.out, HB2.out⟩

theorem iencS_any (ao : Option Addr) (cap : Nat) (zs : List Int) (per : Int) (w : World) (hr : Row w ao zs) (hc : zs.length ≤ cap) (hcm : cap ≤ 9223372036854775807) (hnil : ao = none → zs.length = 0 ∧ cap = 0) :
    Calls Try.prog 7 #[.slice ao zs.length cap, .int .i64 per] w fun e w' => Code w w' (encR per zs) e := by
  by_cases h : per < 1 ∨ 65535 < per ∨ 100000 < zs.length
  · refine Calls.mono (iencS_no ao cap zs.length per w (by omega) h) ?_
    rintro e w' ⟨rfl, rfl⟩
    rw [encR_no h]
    exact Code.none w'
  · obtain ⟨P, rfl⟩ : ∃ P : Nat, per = P := ⟨per.toNat, by omega⟩
    rw [encR_yes (by omega) (by omega) (by omega)]
    exact iencS_yes ao cap zs P w hr hc hcm hnil (by omega) (by omega) (by omega)

end Go.Proofs.Ytpbchecindmfeaa
