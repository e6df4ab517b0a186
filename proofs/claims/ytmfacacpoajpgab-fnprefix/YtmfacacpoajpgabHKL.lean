import Derived.Test.YtmfacacpoajpgabHKC
namespace Go.Proofs.Ytmfacacpoajpgab
open Go.RowKit
attribute [local go_sem ↓] Go.wp_at_zero Go.wp_at_succ
set_option linter.unusedVariables false

set_option maxRecDepth 100000 in
set_option maxHeartbeats 6400000 in
theorem ikind_any (ao : Option Addr) (cap : Nat) (zs : List Int) (w : World) (hr : Row64 w ao zs) (hn : zs.length ≤ 1048576) :
    Calls Try.prog 34 #[.slice ao zs.length cap] w fun e w' => e = .returned (.int .i64 (hk zs)) ∧ Below w.heap.size w w' := by
  have HC := hideH (countLens_any ao cap zs w hr hn)
  clear hr
  go_enter Try.func34, Try.ntmps34
  go_wp2_with fail
  refine Calls.mono HC.out ?_
  rintro e w1 ⟨⟨L, rfl, hlen, hone, hcnt⟩, hb1⟩
  have hN := Cnts.new w1 84
  have hsz : (Try.prog.info? 84).map (·.size) = some L.length := by rw [hlen]; exact Try.size_cnts
  have hth : (w1.alloc (.cells #[.int .i64 0, .int .i64 0, .int .i64 0, .int .i64 0, .int .i64 0, .int .i64 0, .int .i64 0, .int .i64 0, .int .i64 0, .int .i64 0, .int .i64 0, .int .i64 0, .int .i64 0, .int .i64 0, .int .i64 0, .int .i64 0] 84)).there w1.heap.size 0 L.length := by rw [hlen]; exact hN.there
  have hrg := World.rangeAt_setCells_same _ w1.heap.size 0 L hth
  have hb2 : Below w.heap.size w ((w1.alloc (.cells #[.int .i64 0, .int .i64 0, .int .i64 0, .int .i64 0, .int .i64 0, .int .i64 0, .int .i64 0, .int .i64 0, .int .i64 0, .int .i64 0, .int .i64 0, .int .i64 0, .int .i64 0, .int .i64 0, .int .i64 0, .int .i64 0] 84)).setCells w1.heap.size 0 L) := (hb1.alloc hb1.size _).grown (grownBy_setCells w1.heap.size L 0 _) (hb1.alloc hb1.size _).size (by intro q e; simp at e; have := hb1.size; omega)
  have HON := hideH (all_oneCell_toArray hone)
  have HB2 := hideH hb2
  have HLN := hideH hlen
  have HCN := hideH hcnt
  have hz1 := hb1.size
  clear hN HC hb1 hb2 hone hcnt hlen
  by_cases hok : okB zs = true
  · have hLc := HCN.out hok
    have HK := hideH (fun W => kindc_any (cnt zs) L W HLN.out (by rw [hLc]; exact cells16_at _) (fun i => Nat.le_trans (cnt_le _ _) (okB_ok hok).1))
    have HKH := hideH (kindF_hk hok)
    rw [hok]
    clear hLc
    go_wp2_with (first | (refine wpList_store_mid rfl _ _ _ rfl w1.heap.size 0 L.toArray rfl rfl (by simpa using hth) (by simpa using hsz) HON.out ?_) | (refine wpList_load_mid rfl _ _ rfl _ _ rfl L _ hrg Try.underlying84 rfl hsz ?_))
    refine Calls.mono (HK.out _) ?_
    rintro e w2 ⟨rfl, hb3⟩
    rw [HKH.out]
    have hbE := HB2.out.trans (hb3.mono HB2.out.size)
    clear hb3 HK
    go_wp2_with fail
    go_ret
    exact ⟨rfl, hbE⟩
  · have hok : okB zs = false := by simpa using hok
    have HF : Hid (0 = hk zs) := by show _ = _; rw [hk, hok]; rfl
    rw [hok]
    go_wp2_with (first | (refine wpList_store_mid rfl _ _ _ rfl w1.heap.size 0 L.toArray rfl rfl (by simpa using hth) (by simpa using hsz) HON.out ?_) | (refine wpList_load_mid rfl _ _ rfl _ _ rfl L _ hrg Try.underlying84 rfl hsz ?_))
    go_ret
    exact ⟨reti HF.out, HB2.out⟩

theorem law_kind_big (ao : Option Addr) (n cap : Nat) (w : World) (hn : n ≤ 9223372036854775807) (hbig : 1048576 < n) :
    Calls Try.prog 8 #[.slice ao n cap] w fun e w' => e = .returned (.bool true) ∧ Below w.heap.size w w' := by
  go_enter Try.func8, Try.ntmps8
  go_wp2_with fail
  go_ret
  exact ⟨rfl, Below.refl _ _⟩

set_option maxHeartbeats 3200000 in
theorem law_kind (ao : Option Addr) (cap : Nat) (zs : List Int) (w : World) (hr : Row64 w ao zs) (hn : zs.length ≤ 1048576) :
    Calls Try.prog 8 #[.slice ao zs.length cap] w fun e w' => e = .returned (.bool true) ∧ Below w.heap.size w w' := by
  have HR := hideH hr
  clear hr
  go_enter Try.func8, Try.ntmps8
  go_wp2_with fail
  refine (toInt64S_any ao cap zs w HR.out (by omega)).mono ?_
  rintro e w1 ⟨rfl, ho1, hb1⟩
  have R1 := hideH (Row64.owned ho1)
  clear ho1
  go_wp2_with fail
  refine (skind_any (some ⟨w.heap.size, 0, none⟩) zs.length zs w1 R1.out hn).mono ?_
  rintro e w2 ⟨rfl, q, rfl⟩
  have L2 : Below w.heap.size w (w1.drewN q) := hb1.trans (below_drewN' _ _ q)
  generalize w1.drewN q = w2 at *
  clear hb1 R1
  go_wp2_with fail
  refine (toInt64S_any ao cap zs w2 (HR.out.below L2) (by omega)).mono ?_
  rintro e w3 ⟨rfl, ho3, hb3⟩
  have R3 := hideH (Row64.owned ho3)
  have L3 := L2.trans (hb3.mono L2.size)
  have z3 : w2.heap.size ≤ w3.heap.size := hb3.size
  clear ho3 hb3 L2
  go_wp2_with fail
  refine (ikind_any (some ⟨w2.heap.size, 0, none⟩) zs.length zs w3 R3.out hn).mono ?_
  rintro e w4 ⟨rfl, hb4⟩
  have R4 := hideH (R3.out.below hb4)
  have L4 := L3.trans (hb4.mono L3.size)
  clear hb4 L3 R3
  have hne : (hk zs != hk zs) = false := by simp
  go_wp2_with fail
  refine (toInt64S_any ao cap zs w4 (HR.out.below L4) (by omega)).mono ?_
  rintro e w5 ⟨rfl, ho5, hb5⟩
  have R5 := hideH (Row64.owned ho5)
  have R6 := hideH (R4.out.below hb5)
  have L5 := L4.trans (hb5.mono L4.size)
  clear ho5 hb5 L4 R4
  go_wp2_with fail
  refine (eqInt64S_any _ _ _ _ zs zs w5 R6.out R5.out (by omega)).mono ?_
  rintro e w6 ⟨rfl, q6, rfl⟩
  rw [decide_eq_true rfl]
  go_wp2_with fail
  go_ret
  exact ⟨rfl, L5.trans (below_drewN' _ _ _)⟩

end Go.Proofs.Ytmfacacpoajpgab
