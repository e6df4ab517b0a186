import Derived.Test.YtlffompekagihacHKC
namespace Go.Proofs.Ytlffompekagihac
open Go.RowKit
attribute [local go_sem ↓] Go.wp_at_zero Go.wp_at_succ
set_option linter.unusedVariables false

set_option maxRecDepth 100000 in
set_option maxHeartbeats 6400000 in
theorem ikind_any (ao : Option Addr) (cap : Nat) (zs : List Int) (w : World) (hr : Row64 w ao zs) (hn : zs.length ≤ 1048576) :
    Calls Try.prog 40 #[.slice ao zs.length cap] w fun e w' => e = .returned (.int .i64 (hk zs)) ∧ Below w.heap.size w w' := by
  have HC := hideH (countLens_any ao cap zs w hr hn)
  clear hr
  go_enter Try.func40, Try.ntmps40
  go_wp2_with fail
  refine Calls.mono HC.out ?_
  rintro e w1 ⟨⟨L, rfl, hlen, hone, hcnt⟩, hb1⟩
  have hN := Cnts.new w1 72
  have hsz : (Try.prog.info? 72).map (·.size) = some L.length := by rw [hlen]; exact Try.size_cnts
  have hth : (w1.alloc (.cells #[.int .i64 0, .int .i64 0, .int .i64 0, .int .i64 0, .int .i64 0, .int .i64 0, .int .i64 0, .int .i64 0, .int .i64 0, .int .i64 0, .int .i64 0, .int .i64 0, .int .i64 0, .int .i64 0, .int .i64 0, .int .i64 0] 72)).there w1.heap.size 0 L.length := by rw [hlen]; exact hN.there
  have hrg := World.rangeAt_setCells_same _ w1.heap.size 0 L hth
  have hb2 : Below w.heap.size w ((w1.alloc (.cells #[.int .i64 0, .int .i64 0, .int .i64 0, .int .i64 0, .int .i64 0, .int .i64 0, .int .i64 0, .int .i64 0, .int .i64 0, .int .i64 0, .int .i64 0, .int .i64 0, .int .i64 0, .int .i64 0, .int .i64 0, .int .i64 0] 72)).setCells w1.heap.size 0 L) := (hb1.alloc hb1.size _).grown (grownBy_setCells w1.heap.size L 0 _) (hb1.alloc hb1.size _).size (by intro q e; simp at e; have := hb1.size; omega)
  have HON := hideH (all_oneCell_toArray hone)
  have HB2 := hideH hb2
  have HLN := hideH hlen
  have HCN := hideH hcnt
  have hz1 := hb1.size
  clear hN HC hb1 hb2 hone hcnt hlen
  by_cases hok : okB zs = true
  · have hLc := HCN.out hok
    have HK := hideH (fun W => kindc_any (cnt zs) L W HLN.out (by rw [hLc]; exact cells16_at _) (fun i => Nat.le_trans (cnt_le _ _) (okB_ok hok).1))
    have HKH := hideH (kindF_hk hok)
    rw [hok]
    clear hLc
    go_wp2_with (first | (refine wpList_store_mid rfl _ _ _ rfl w1.heap.size 0 L.toArray rfl rfl (by simpa using hth) (by simpa using hsz) HON.out ?_) | (refine wpList_load_mid rfl _ _ rfl _ _ rfl L _ hrg Try.underlying72 rfl hsz ?_))
    refine Calls.mono (HK.out _) ?_
    rintro e w2 ⟨rfl, hb3⟩
    rw [HKH.out]
    have hbE := HB2.out.trans (hb3.mono HB2.out.size)
    clear hb3 HK
    go_wp2_with fail
    go_ret
    exact ⟨rfl, hbE⟩
  · have hok : okB zs = false := by simpa using hok
    have HF : Hid (0 = hk zs) := by show _ = _; rw [hk, hok]; rfl
    rw [hok]
    go_wp2_with (first | (refine wpList_store_mid rfl _ _ _ rfl w1.heap.size 0 L.toArray rfl rfl (by simpa using hth) (by simpa using hsz) HON.out ?_) | (refine wpList_load_mid rfl _ _ rfl _ _ rfl L _ hrg Try.underlying72 rfl hsz ?_))
    go_ret
    exact ⟨reti HF.out, HB2.out⟩

end Go.Proofs.Ytlffompekagihac
