import Derived.Test.YtmfacacpoajpgaaCrcT
import Derived.Test.YtmfacacpoajpgaaSumS
import Derived.Test.YtmfacacpoajpgaaOwn
import Derived.Deep.CutRange
import Derived.Deep.RegionWith
import Derived.Deep.RegionHeld3
import Derived.Deep.MidRow
namespace Go.Proofs.Ytmfacacpoajpgaa
open Go.RowKit

theorem Try.zero_tables : (Try.prog.info? 94).map (fun i => i.zero) = some (some (.agg (Array.replicate 2048 (.int .u32 0)))) := by kernel_rfl
theorem run_zero_tables (w : World) : (zeroValue 94).run Try.prog w = .ok (.agg (Array.replicate 2048 (.int .u32 0))) w := by
  obtain ⟨i, hi, hz⟩ := Option.map_eq_some_iff.1 Try.zero_tables
  simp [zeroValue, typeInfo, go_sem, hi, hz]

/-- The tables lie at p: the first n cells are made, all are numbers. -/
structure CTab (w : World) (p n : Nat) : Prop where
  made : ∀ i, i < n → w.cell? ⟨p, i, none⟩ = some (.int .u32 (Crc.tab (i / 256) (i % 256) : Nat))
  all : ∀ i, i < 2048 → ∃ v : Int, w.cell? ⟨p, i, none⟩ = some (.int .u32 v)
  free : ∀ i, w.frozen? ⟨p, i, none⟩ = false

theorem CTab.set {w : World} {p n : Nat} (h : CTab w p n) (hn : n < 2048) (v : Int) (hv : v = (Crc.tab (n / 256) (n % 256) : Nat)) : CTab (w.setCell ⟨p, n, none⟩ (.int .u32 v)) p (n + 1) := by
  obtain ⟨v0, h0⟩ := h.all n hn
  refine ⟨?_, ?_, ?_⟩
  · intro i hi
    by_cases e : i = n
    · subst e; subst hv
      exact World.cell?_setCell_same _ _ _ h0
    · rw [World.cell?_setCell_other _ _ _ _ (by simp)]
      exact h.made i (by omega)
  · intro i hi
    by_cases e : i = n
    · subst e
      exact ⟨v, World.cell?_setCell_same _ _ _ h0⟩
    · rw [World.cell?_setCell_other _ _ _ _ (by simp)]
      exact h.all i hi
  · intro i
    rw [World.frozen?_setCell]
    exact h.free i

theorem CTab.drew {w : World} {p n : Nat} (h : CTab w p n) : CTab w.drew p n := ⟨h.made, h.all, h.free⟩

theorem CTab.new (w : World) : CTab (w.alloc (.cells (Array.replicate 2048 (.int .u32 0)) 94)) w.heap.size 0 := by
  refine ⟨fun i hi => by omega, fun i hi => ⟨0, ?_⟩, fun i => ?_⟩
  · simp [go_sem, hi]
  · simp [go_sem]

/-- One row of the tables, as a list of cells. -/
def rowOf (k : Nat) : List Value := (List.range 256).map (fun x => Value.int .u32 (Crc.tab k x : Nat))
theorem rowOf_len (k : Nat) : (rowOf k).length = 256 := by simp [rowOf]
theorem rowOf_at (k x : Nat) (h : x < 256) : (rowOf k)[x]? = some (Value.int .u32 (Crc.tab k x : Nat)) := by simp [rowOf, h]
theorem CTab.range {w : World} {p n : Nat} (h : CTab w p n) (k : Nat) (hk : (k + 1) * 256 ≤ n) : w.rangeAt p (k * 256) (rowOf k) := by
  intro j v hv
  have hj : j < 256 := by
    have h1 := (List.getElem?_eq_some_iff.1 hv).1
    rwa [rowOf_len] at h1
  rw [rowOf_at k j hj] at hv
  simp only [Option.some.injEq] at hv
  subst hv
  rw [h.made (k * 256 + j) (by omega)]
  rw [show (k * 256 + j) / 256 = k by omega, show (k * 256 + j) % 256 = j by omega]
theorem Try.size_u32 : (Try.prog.info? 23).map (·.size) = some 1 := by kernel_rfl
theorem run_index_gen {P : Program} {t e : TypeId} {n : Nat} {k : IntKind} (L : List Value) (x : Nat) (v : Value) (hu : P.underlying t = some (.array n e)) (he : P.underlying e = some (.int k)) (hs : (P.info? e).map (·.size) = some 1) (h : x < n) (hv : L[x]? = some v) (w : World) : (Instr.index t (.agg L.toArray) (.int .i64 x)).run P w = .ok v w := by
  obtain ⟨i, hi, hs⟩ := Option.map_eq_some_iff.1 hs
  unfold Instr.index
  simp only [asIntOf, Sem.run_bind, Sem.run_pure, Result.andThen_ok, run_underlying hu]
  rw [if_pos ⟨by omega, by omega⟩]
  simp [part, isAgg, sizeOf, typeInfo, Sem.run_bind, run_underlying he, hi, hs, hv, go_sem]
theorem run_index_row (L : List Value) (x : Nat) (v : Value) (h : x < 256) (hv : L[x]? = some v) (w : World) : (Instr.index 92 (.agg L.toArray) (.int .i64 x)).run Try.prog w = .ok v w :=
  run_index_gen L x v Try.underlying92 Try.underlying23 Try.size_u32 h hv w
theorem Try.size_row : (Try.prog.info? 92).map (·.size) = some 256 := by kernel_rfl

set_option maxRecDepth 100000 in
set_option maxHeartbeats 1600000 in
theorem tables_any (w : World) : Calls Try.prog 42 #[] w fun e w' => e = .returned (.pointer (some ⟨w.heap.size, 0, none⟩)) ∧ CTab w' w.heap.size 2048 ∧ Below w.heap.size w w' := by
  have hT0 := CTab.new w
  have hB0 : Below w.heap.size w (w.alloc (.cells (Array.replicate 2048 (.int .u32 0)) 94)) := (Below.refl _ _).alloc (Nat.le_refl _) _
  have hz := run_zero_tables w
  generalize Array.replicate 2048 (Value.int .u32 0) = Z at *
  go_enter Try.func42, Try.ntmps42
  go_upto_region 2 with fail
  go_wp2_with fail
  clear hz
  go_loopw [6] (fun i wr => ∃ x : Nat, x ≤ 256 ∧ i = .int .i64 x ∧ CTab wr w.heap.size x ∧ Below w.heap.size w wr) (fun i _ => 256 - (intOf i).toNat)
  case atStart => exact ⟨0, by omega, rfl, hT0, hB0⟩
  case round =>
    clear hT0 hB0
    obtain ⟨x, hx, rfl, hT, hB⟩ := hrel
    by_cases hlt : x < 256
    · obtain ⟨v0, hc⟩ := hT.all x (by omega)
      have hf := hT.free x
      have hs := hT.set (by omega) (Crc.tab 0 x : Nat) (by rw [Nat.div_eq_of_lt hlt, Nat.mod_eq_of_lt hlt])
      have hb := hB.grown (grownBy_setCell wr ⟨w.heap.size, x, none⟩ (.int .u32 (Crc.tab 0 x : Nat))) hB.size (by intro k e; simp at e; omega)
      have HZ : Hid _ := zeroByte_any x (by omega)
      have hli : (x : Int) < 256 := by omega
      have hlo : (0 : Int) ≤ x := by omega
      have e0 : Crc.tab 0 x = Crc.halves 8 x := rfl
      rw [e0] at hs hb
      clear hT hB hlt hx
      go_wp2_with fail
      refine Calls.mono (HZ.out _) ?_
      rintro e w' ⟨rfl, rfl⟩
      clear HZ
      go_wp2_with fail
      go_roundw
      case rel => exact ⟨x + 1, by omega, by go_num, hs, hb⟩
      case measure => simp [intOf]; omega
    · have e : x = 256 := by omega
      have hli : ¬ (x : Int) < 256 := by omega
      have hT' : CTab wr w.heap.size (1 * 256) := by rw [e] at hT; exact hT
      clear hlt hx hT e
      go_wp2_with fail
      clear hli
      go_loopw [3] (fun kk wr => ∃ k : Nat, 1 ≤ k ∧ k ≤ 8 ∧ kk = .int .i64 k ∧ CTab wr w.heap.size (k * 256) ∧ Below w.heap.size w wr) (fun k _ => 8 - (intOf k).toNat)
      case atStart => exact ⟨1, by omega, by omega, rfl, hT', hB⟩
      case round =>
        clear hT' hB
        obtain ⟨k, hk1, hk, rfl, hT, hB⟩ := hrel
        by_cases hlt : k < 8
        · obtain ⟨j, hjk⟩ : ∃ j, k = j + 1 := ⟨k - 1, by omega⟩
          have hkj : (k : Int) - 1 = (j : Int) := by omega
          have hj7 : (j : Int) < 8 := by omega
          have hj0 : (0 : Int) ≤ (j : Int) := by omega
          have hk0 : (0 : Int) ≤ (k : Int) := by omega
          have hrg := hT.range j (by omega)
          have hL := rowOf_len j
          have hLx : ∀ x, x < 256 → (rowOf j)[x]? = some (Value.int .u32 (Crc.tab j x : Nat)) := fun x hx => rowOf_at j x hx
          obtain ⟨L, hLL⟩ : ∃ L, rowOf j = L := ⟨_, rfl⟩
          rw [hLL] at hrg hL hLx
          have hsz : (Try.prog.info? 92).map (·.size) = some L.length := by rw [hL]; exact Try.size_row
          have HLX : Hid _ := hLx
          have HL : Hid _ := hL
          have hj8 : (k : Int) < 8 := by omega
          have HJK : Hid (k = j + 1) := hjk
          clear hLL hLx hL hlt hk hk1 hjk
          go_wp2_with (refine wpList_load_mid rfl _ _ rfl _ _ rfl L _ hrg Try.underlying92 rfl hsz ?_)
          clear hrg hsz
          go_loopw [24] (fun i wx => ∃ x : Nat, x ≤ 256 ∧ i = .int .i64 x ∧ CTab wx w.heap.size (k * 256 + x) ∧ Below w.heap.size w wx) (fun i _ => 256 - (intOf i).toNat)
          case atStart => exact ⟨0, by omega, rfl, by rw [Nat.add_zero]; exact hT, hB⟩
          case round =>
            clear hT hB
            obtain ⟨x, hx, rfl, hT, hB⟩ := hrel
            by_cases hlx : x < 256
            · have hLx := HLX.out x hlx
              have hjk := HJK.out
              have htb := Crc.tab_lt j x (by omega)
              obtain ⟨c, hc⟩ : ∃ c, Crc.tab j x = c := ⟨_, rfl⟩
              rw [hc] at hLx htb
              have hread := hT.made (c % 256) (by omega)
              rw [show c % 256 / 256 = 0 by omega, show c % 256 % 256 = c % 256 by omega] at hread
              have ht0 := Crc.tab_lt 0 (c % 256) (by omega)
              have hxor : bits .xor .u32 ((c / 256 : Nat) : Int) ((Crc.tab 0 (c % 256) : Nat) : Int) = ((Crc.tab k x : Nat) : Int) := by
                rw [u32_xor_nat _ _ (by omega) ht0, HJK.out, Crc.tab_succ, hc]
              have hand : bits .and .u32 (c : Int) 255 = ((c % 256 : Nat) : Int) := by
                rw [show (255 : Int) = ((255 : Nat) : Int) from rfl, u32_and_nat _ _ htb (by decide), show (255 : Nat) = 2 ^ 8 - 1 from rfl, Nat.and_two_pow_sub_one_eq_mod]
              obtain ⟨v0, hcell⟩ := hT.all (k * 256 + x) (by omega)
              have hf := hT.free (k * 256 + x)
              have hs := hT.set (by omega) (Crc.tab k x : Nat) (by rw [show (k * 256 + x) / 256 = k by omega, show (k * 256 + x) % 256 = x by omega])
              have hb := hB.grown (grownBy_setCell _ ⟨w.heap.size, k * 256 + x, none⟩ (.int .u32 (Crc.tab k x : Nat))) hB.size (by intro k e; simp at e; omega)
              have hli : (x : Int) < 256 := by omega
              have hlo : (0 : Int) ≤ x := by omega
              obtain ⟨C0, hC0⟩ : ∃ C0, c % 256 = C0 := ⟨_, rfl⟩
              obtain ⟨D0, hD0⟩ : ∃ D0, c / 256 = D0 := ⟨_, rfl⟩
              obtain ⟨T0, hT0⟩ : ∃ T0, Crc.tab 0 (c % 256) = T0 := ⟨_, rfl⟩
              obtain ⟨T1, hT1⟩ : ∃ T1, Crc.tab k x = T1 := ⟨_, rfl⟩
              have hc0 : (C0 : Int) < 256 := by omega
              have hdv : (c : Int) / 256 = (D0 : Int) := by omega
              rw [hT0, hC0] at hread
              rw [hD0, hT0, hT1] at hxor
              rw [hC0] at hand
              rw [hT1] at hs hb
              have hix := run_index_row L x _ hlx hLx wr
              have hOC : k * 256 + x ≠ C0 := by omega
              have hkeep : (wr.setCell ⟨w.heap.size, k * 256 + x, none⟩ (.int .u32 T1)).drew.cell? ⟨w.heap.size, C0, none⟩ = some (.int .u32 T0) := by
                show (wr.setCell ⟨w.heap.size, k * 256 + x, none⟩ (.int .u32 T1)).cell? ⟨w.heap.size, C0, none⟩ = some (.int .u32 T0)
                rw [World.cell?_setCell_other _ _ _ _ (by intro e; simp only [Addr.mk.injEq] at e; omega)]
                exact hread
              clear hjk hT hB hlx hx hc hC0 hD0 hT0 hT1
              go_wp2_with fail
              go_region_held3 (fun w' => w'.cell? ⟨w.heap.size, C0, none⟩ = some (.int .u32 T0)) (first | assumption | (go_keep; done)) (fail)
              go_wp2_with fail
              go_roundw
              case rel => exact ⟨x + 1, by omega, by go_num, by rw [← Nat.add_assoc]; exact hs.drew, hb.drew⟩
              case measure => simp [intOf]; omega
            · have e : x = 256 := by omega
              have hli : ¬ (x : Int) < 256 := by omega
              have hT' : CTab wr w.heap.size ((k + 1) * 256) := by rw [show (k + 1) * 256 = k * 256 + x by omega]; exact hT
              clear hlx hx hT e
              go_wp2_with fail
              go_roundw
              case rel => exact ⟨k + 1, by omega, by omega, by go_num, hT', hB⟩
              case measure => simp [intOf]; omega
        · have e : k = 8 := by omega
          subst e
          go_wp2_with fail
          go_ret
          exact ⟨rfl, hT, hB⟩
end Go.Proofs.Ytmfacacpoajpgaa
