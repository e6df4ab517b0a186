import Derived.Test.YtpbchecindmfeaaEncJ
namespace Go.Proofs.Ytpbchecindmfeaa
open Go.RowKit
attribute [local go_sem ↓] Go.wp_at_zero Go.wp_at_succ
set_option linter.unusedVariables false

theorem ownE0 (w : World) (B : Nat) (t : TypeId) (hB : B ≤ w.heap.size) : OwnsB t B (w.alloc (.cells #[] t)) (some ⟨w.heap.size, 0, none⟩) 0 [] :=
  World.ownsRow_lit w #[] 0 hB (by unfold maxLen; omega) rfl
theorem headT_eq (l : Int) (n : Nat) (h : n ≤ 65535) : [l, (n : Int) % 256, (n : Int) / 256, 255 - (n : Int) % 256, 255 - (n : Int) / 256] = headS l n := by
  simp only [headS, List.cons.injEq, and_true, true_and]
  refine ⟨?_, ?_, ?_, ?_⟩ <;> omega
set_option maxRecDepth 100000 in
set_option maxHeartbeats 6400000 in
theorem sencS_no (ao : Option Addr) (cap n : Nat) (per : Int) (w : World) (hn : n ≤ 140737488355328) (h : per < 1 ∨ 65535 < per ∨ 100000 < n) :
    Calls Try.prog 5 #[.slice ao n cap, .int .i64 per] w fun e w' => Code w w' [] e := by
  have HO := hideE (ownE0 w w.heap.size 5 (Nat.le_refl _))
  have HB := hideE (show Below w.heap.size w (w.alloc (.cells #[] 5)) from (Below.refl _ _).alloc (Nat.le_refl _) _)
  by_cases h1 : per < 1
  · clear h
    go_enter Try.func5, Try.ntmps5
    go_wp2_with fail
    go_ret
    exact ⟨_, _, rfl, HO.out, HB.out⟩
  · by_cases h2 : 65535 < per
    · clear h
      go_enter Try.func5, Try.ntmps5
      go_wp2_with fail
      go_ret
      exact ⟨_, _, rfl, HO.out, HB.out⟩
    · have h3 : 100000 < n := by omega
      clear h
      go_enter Try.func5, Try.ntmps5
      go_wp2_with fail
      go_ret
      exact ⟨_, _, rfl, HO.out, HB.out⟩

set_option maxRecDepth 100000 in
set_option maxHeartbeats 6400000 in
theorem sencS_yes (ao : Option Addr) (cap : Nat) (zs : List Int) (P : Nat) (w : World) (hr : Row w ao zs) (hc : zs.length ≤ cap) (hcm : cap ≤ 140737488355328) (hnil : ao = none → zs.length = 0 ∧ cap = 0) (h0 : 0 < P) (h1 : P ≤ 65535) (h2 : zs.length ≤ 100000) :
    Calls Try.prog 5 #[.slice ao zs.length cap, .int .i64 P] w fun e w' => Code w w' (encS P zs) e := by
  obtain ⟨i0, hi, hz0, hz1, hz2⟩ := info_parts Try.info_u8
  have HO := hideE (ownE0 w w.heap.size 5 (Nat.le_refl _))
  have HB := hideE (show Below w.heap.size w (w.alloc (.cells #[] 5)) from (Below.refl _ _).alloc (Nat.le_refl _) _)
  have HR := hideE hr
  have HL := hideE (encS_len P h0 zs.length zs (Nat.le_refl _))
  have HNIL := hideE hnil
  clear hr hnil
  go_enter Try.func5, Try.ntmps5
  go_wp2_with fail
  go_loopw [0, 5, 6, 7] (fun d c _ _ wr => ∃ (co ao' : Option Addr) (cc cap' : Nat) (rest Z : List Int), d = .slice co rest.length cc ∧ c = .slice ao' Z.length cap' ∧ Hid (co = none → rest.length = 0 ∧ cc = 0) ∧ rest.length ≤ cc ∧ cc ≤ 140737488355328 ∧ rest.length ≤ 100000 ∧ Hid (OwnsB 5 w.heap.size wr ao' cap' Z) ∧ Hid (Row w co rest) ∧ Hid (Z ++ encS P rest = encS P zs) ∧ Hid (Below w.heap.size w wr)) (fun d _ _ _ _ => match d with | .slice _ n _ => n | _ => 0)
  case atStart => exact ⟨ao, _, cap, 0, zs, [], rfl, rfl, HNIL, hc, hcm, h2, HO, HR, rfl, HB⟩
  case round =>
    obtain ⟨co, ao', cc, cap', rest, Z, rfl, rfl, HN2, hcc, hccm, hrl, HO, HR2, HE, HB⟩ := hrel
    have hZl : Z.length ≤ 1000000 := by have hEl := congrArg List.length HE.out; rw [List.length_append] at hEl; have := HL.out; omega
    by_cases hlt : P < rest.length
    · obtain ⟨b, off, rfl, hc1⟩ := HR2.out.at (k := 0) (by omega)
      have hbw : b < w.heap.size := World.block_lt_of_cell? w _ (hc1 0 (by omega))
      obtain ⟨T, hT⟩ : ∃ T, rest.take P = T := ⟨_, rfl⟩
      have hTl : T.length = P := by rw [← hT, List.length_take]; omega
      have HT := hideE hT
      have HTL := hideE hTl
      clear hc1 hT hTl
      have HOA := hideE (fun A t => HO.out.below ((Below.refl _ _).alloc (Nat.le_refl _) (.cells A t)))
      have HBA := hideE (fun A t => HB.out.trans (((Below.refl _ _).alloc (Nat.le_refl _) (.cells A t)).mono HB.out.size))
      have hBs := HB.out.size
      go_wp2_with (at_builtin; refine wpList_append_row _ rfl _ _ 22 rfl w.heap.size 5 i0 (.int .u8 0) 1 Try.underlying22 hi hz0 hz1 hz2 rfl (.slice ao' Z.length cap') Z.length (Z.map (Value.int .u8)) rfl (HOA.out _ _) (some ⟨wr.heap.size, 0, none⟩) 5 _ rfl (row_five wr _ _ _ _ _ 5) (fun e => by cases e) (by unfold maxLen; simp; omega) (by simp; omega) (by simp; omega) ?_)
      intro v' w2 hown hgrow hat
      have hown2 : w2.ownsRow w.heap.size 5 1 v' (Z.length + 5) ((Z ++ headS 0 P).map (Value.int .u8)) := by
        rw [← headT_eq 0 P (by omega), List.map_append]
        exact hown
      obtain ⟨ao2, cap2, rfl, ho2⟩ := OwnsB.of hown2
      rw [blk_own] at hgrow
      have hb2 : Below w.heap.size w w2 := (HBA.out _ _).grown hgrow (by simp; omega) (fun g e => HO.out.base g e)
      have HR3 := hideE (HR2.out.below hb2)
      have hlen : (Z ++ headS 0 P).length = Z.length + 5 := by simp [headS]
      have hB2 : w.heap.size ≤ w2.heap.size := hb2.size
      have HO2 := hideE ho2
      have HB2 := hideE hb2
      obtain ⟨Y, hY⟩ : ∃ Y, Z ++ headS 0 P = Y := ⟨_, rfl⟩
      rw [hY] at HO2 hlen ⊢
      have hz6 : Y.length ≤ 1000005 := by omega
      have HY := hideE hY
      have HYL := hideE hlen
      clear hown hown2 hgrow hat ho2 hb2 HOA HBA hY hlen
      have HRT := hideE (show Row w2 (some ⟨b, off, none⟩) T from by rw [← HT.out]; exact HR3.out.taken P)
      go_wp2_with (at_builtin; refine wpList_append_row _ rfl _ _ 22 rfl w.heap.size 5 i0 (.int .u8 0) 1 Try.underlying22 hi hz0 hz1 hz2 rfl (.slice ao2 Y.length cap2) Y.length (Y.map (Value.int .u8)) rfl HO2.out (some ⟨b, off, none⟩) cc T (by rw [HTL.out]; rfl) HRT.out (fun e => by cases e) (by unfold maxLen; rw [HTL.out]; omega) (by rw [HTL.out]; omega) hB2 ?_)
      intro v3 w3 hown3 hgrow3 hat3
      rw [← List.map_append] at hown3
      obtain ⟨ao3, cap3, rfl, ho3⟩ := OwnsB.of hown3
      rw [blk_own] at hgrow3
      have HB3 := hideE (HB2.out.grown hgrow3 hB2 (fun g e => HO2.out.base g e))
      have HO3 := hideE ho3
      have HE2 : Hid ((Y ++ T) ++ encS P (rest.drop P) = encS P zs) := by
        show _ = _
        rw [← HE.out, encS_more h0 hlt, HT.out, blkS, HTL.out, ← HY.out, List.append_assoc, List.append_assoc, List.append_assoc]
      have HR4 := hideE (HR2.out.dropped P)
      obtain ⟨Z2, hZ2⟩ : ∃ Z2, Y ++ T = Z2 := ⟨_, rfl⟩
      obtain ⟨R2, hR2⟩ : ∃ R2, rest.drop P = R2 := ⟨_, rfl⟩
      have hR2l : R2.length = rest.length - P := by rw [← hR2, List.length_drop]
      rw [hZ2] at HO3 HE2 ⊢
      rw [hR2] at HE2 HR4
      clear hR2 hZ2 ho3 hown3 hgrow3 hat3
      have hne : ¬ cc = P := by omega
      have hsub : rest.length - P < rest.length := by omega
      go_wp2_with fail
      refine ⟨⟨some ⟨b, off + P, none⟩, ao3, cc - P, cap3, R2, Z2, by rw [hR2l], rfl, (fun e => by cases e), by omega, by omega, by omega, HO3, HR4, HE2, HB3⟩, hsub⟩
    · obtain ⟨n, hn⟩ : ∃ n, rest.length = n := ⟨_, rfl⟩
      have HN := hideE hn
      rw [hn] at hcc hrl hlt ⊢
      have hnP : (n : Int) ≤ (P : Int) := by omega
      clear hn
      have HOA := hideE (fun A t => HO.out.below ((Below.refl _ _).alloc (Nat.le_refl _) (.cells A t)))
      have HBA := hideE (fun A t => HB.out.trans (((Below.refl _ _).alloc (Nat.le_refl _) (.cells A t)).mono HB.out.size))
      have hBs := HB.out.size
      go_wp2_with (at_builtin; refine wpList_append_row _ rfl _ _ 22 rfl w.heap.size 5 i0 (.int .u8 0) 1 Try.underlying22 hi hz0 hz1 hz2 rfl (.slice ao' Z.length cap') Z.length (Z.map (Value.int .u8)) rfl (HOA.out _ _) (some ⟨wr.heap.size, 0, none⟩) 5 _ rfl (row_five wr _ _ _ _ _ 5) (fun e => by cases e) (by unfold maxLen; simp; omega) (by simp; omega) (by simp; omega) ?_)
      intro v' w2 hown hgrow hat
      have hown2 : w2.ownsRow w.heap.size 5 1 v' (Z.length + 5) ((Z ++ headS 1 n).map (Value.int .u8)) := by
        rw [← headT_eq 1 n (by omega), List.map_append]
        exact hown
      obtain ⟨ao2, cap2, rfl, ho2⟩ := OwnsB.of hown2
      rw [blk_own] at hgrow
      have hb2 : Below w.heap.size w w2 := (HBA.out _ _).grown hgrow (by simp; omega) (fun g e => HO.out.base g e)
      have HR3 := hideE (HR2.out.below hb2)
      have hlen : (Z ++ headS 1 n).length = Z.length + 5 := by simp [headS]
      have hB2 : w.heap.size ≤ w2.heap.size := hb2.size
      have HO2 := hideE ho2
      have HB2 := hideE hb2
      obtain ⟨Y, hY⟩ : ∃ Y, Z ++ headS 1 n = Y := ⟨_, rfl⟩
      rw [hY] at HO2 hlen ⊢
      have hz6 : Y.length ≤ 1000005 := by omega
      have HY := hideE hY
      have HYL := hideE hlen
      clear hown hown2 hgrow hat ho2 hb2 HOA HBA hY hlen
      go_wp2_with (at_builtin; refine wpList_append_row _ rfl _ _ 22 rfl w.heap.size 5 i0 (.int .u8 0) 1 Try.underlying22 hi hz0 hz1 hz2 rfl (.slice ao2 Y.length cap2) Y.length (Y.map (Value.int .u8)) rfl HO2.out co cc rest (by rw [HN.out]; rfl) HR3.out HN2.out (by unfold maxLen; rw [HN.out]; omega) (by rw [HN.out]; omega) hB2 ?_)
      intro v3 w3 hown3 hgrow3 hat3
      rw [← List.map_append] at hown3
      obtain ⟨ao3, cap3, rfl, ho3⟩ := OwnsB.of hown3
      rw [blk_own] at hgrow3
      have HB3 := hideE (HB2.out.grown hgrow3 hB2 (fun g e => HO2.out.base g e))
      have hF : Y ++ rest = encS P zs := by
        rw [← HE.out, encS_last (by rw [HN.out]; omega), blkS, HN.out, ← HY.out, List.append_assoc]
      rw [hF] at ho3 ⊢
      have HO3 := hideE ho3
      clear hown3 hgrow3 hat3 ho3 hF
      go_wp2_with fail
      all_goals
        go_ret
        exact ⟨ao3, cap3, rfl, HO3.out, HB3.out⟩
theorem sencS_any (ao : Option Addr) (cap : Nat) (zs : List Int) (per : Int) (w : World) (hr : Row w ao zs) (hc : zs.length ≤ cap) (hcm : cap ≤ 140737488355328) (hnil : ao = none → zs.length = 0 ∧ cap = 0) :
    Calls Try.prog 5 #[.slice ao zs.length cap, .int .i64 per] w fun e w' => Code w w' (encR per zs) e := by
  by_cases h : per < 1 ∨ 65535 < per ∨ 100000 < zs.length
  · rw [encR_no h]
    exact sencS_no ao cap zs.length per w (by omega) h
  · obtain ⟨P, rfl⟩ : ∃ P : Nat, per = P := ⟨per.toNat, by omega⟩
    rw [encR_yes (by omega) (by omega) (by omega)]
    exact sencS_yes ao cap zs P w hr hc hcm hnil (by omega) (by omega) (by omega)

end Go.Proofs.Ytpbchecindmfeaa
