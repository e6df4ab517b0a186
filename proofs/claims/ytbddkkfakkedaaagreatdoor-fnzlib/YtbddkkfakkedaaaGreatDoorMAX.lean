import Derived.Test.YtbddkkfakkedaaaGreatDoorMAB
import Derived.Test.YtbddkkfakkedaaaGreatDoorMAI
import Derived.Test.YtbddkkfakkedaaaGreatDoorMAS
import Derived.Test.YtbddkkfakkedaaaGreatDoorMAV
import Derived.Test.YtbddkkfakkedaaaGreatDoorMAW
namespace Go.Proofs.YtbddkkfakkedaaaGreatDoor
open Go.RowKit
attribute [local go_sem ↓] Go.wp_at_zero Go.wp_at_succ
set_option linter.unusedVariables false

/-- The lowest n bytes of a number, the lowest first. -/
def lowB (v n : Nat) : List Int := (List.range n).map (fun i => ((v / 2 ^ (8 * i) % 256 : Nat) : Int))
theorem lowB_len (v n : Nat) : (lowB v n).length = n := by simp [lowB]
theorem lowB_succ (v n : Nat) : lowB v (n + 1) = lowB v n ++ [((v / 2 ^ (8 * n) % 256 : Nat) : Int)] := by simp [lowB, List.range_succ]
theorem lowB_oct (v n : Nat) : Octets (lowB v n) := by
  intro z hz
  simp only [lowB, List.mem_map, List.mem_range] at hz
  obtain ⟨i, _, rfl⟩ := hz
  omega
theorem grownBy_row {a b c : World} {r r2 : Option Nat} (h : a.grownBy b r) (k : b.grownBy c r2) (hr : ∀ g, r2 = some g → r = some g ∨ a.heap.size ≤ g) : a.grownBy c r := by
  refine ⟨k.os.trans h.os, k.tape.trans h.tape, k.output.trans h.output, Nat.le_trans h.size k.size, fun j hj hne => ?_⟩
  rw [k.block j (Nat.lt_of_lt_of_le hj h.size) ?_, h.block j hj hne]
  intro e
  rcases hr j e.symm with h1 | h1
  · exact hne h1.symm
  · omega
set_option maxRecDepth 100000 in
set_option maxHeartbeats 6400000 in
theorem appendLow_any (B : Nat) (ao : Option Addr) (cap V n : Nat) (L : List Int) (w : World) (ho : OwnsB 5 B w ao cap L) (hB : B ≤ w.heap.size) (hn : n ≤ 4) (hV : V < 4294967296) (hl : L.length ≤ 1000000) :
    Calls Tryz.prog 31 #[.slice ao L.length cap, .int .i64 (V : Nat), .int .i64 (n : Nat)] w fun e w' => ∃ ao' cap', e = .returned (.slice ao' (L ++ lowB V n).length cap') ∧ OwnsB 5 B w' ao' cap' (L ++ lowB V n) ∧ w.grownBy w' (blk ao) ∧ Below B w w' ∧ ∀ g, blk ao' = some g → blk ao = some g ∨ w.heap.size ≤ g := by
  obtain ⟨i0, hi, hz0, hz1, hz2⟩ := info_parts Tryz.info_u8
  have HO := hideM ho
  clear ho
  go_enter Tryz.func31, Tryz.ntmps31
  go_upto_region 2 with fail
  go_loopw [0, 7, 9] (fun v _ i wr => ∃ (k : Nat) (ao' : Option Addr) (cap' : Nat) (Z : List Int), k ≤ n ∧ i = .int .i64 k ∧ v = .slice ao' Z.length cap' ∧ Z.length ≤ 1000100 ∧ Hid (Z = L ++ lowB V k) ∧ Hid (OwnsB 5 B wr ao' cap' Z) ∧ Hid (w.grownBy wr (blk ao)) ∧ Hid (Below B w wr) ∧ Hid (∀ g, blk ao' = some g → blk ao = some g ∨ w.heap.size ≤ g)) (fun _ _ i _ => n - (intOf i).toNat)
  case atStart => exact ⟨0, ao, cap, L, Nat.zero_le _, rfl, rfl, by omega, by show _ = _; simp [lowB], HO, World.grownBy.refl _ _, Below.refl _ _, (fun g e => .inl e)⟩
  case round =>
    clear HO
    obtain ⟨k, ao', cap', Z, hk, rfl, rfl, hZl, HZ, HO, HG, HB, HF⟩ := hrel
    by_cases hlt : k < n
    · obtain ⟨K, hK⟩ : ∃ K, 8 * k = K := ⟨_, rfl⟩
      have hKi : 8 * (k : Int) = (K : Int) := by omega
      have hK24 : K ≤ 24 := by omega
      obtain ⟨y, hy⟩ : ∃ y, V / 2 ^ K = y := ⟨_, rfl⟩
      obtain ⟨b, hb⟩ : ∃ b, y % 256 = b := ⟨_, rfl⟩
      have hyi : (V : Int) / 2 ^ K = (y : Int) := by
        rw [show ((2 : Int) ^ K) = ((2 ^ K : Nat) : Int) from (Int.natCast_pow 2 K).symm, ← hy]
        rfl
      have hyV : y ≤ V := by rw [← hy]; exact Nat.div_le_self _ _
      have hmk : min K 64 = K := by omega
      have hmk2 : min K 63 = K := by omega
      have hzw : IntKind.u8.wrap (y : Int) = (b : Int) := by rw [IntKind.wrap_u8]; omega
      have hb255 : b ≤ 255 := by omega
      have HZ2 : Hid (Z ++ [(b : Int)] = L ++ lowB V (k + 1)) := by
        show _ = _
        rw [HZ.out, lowB_succ, hK, hy, hb, List.append_assoc]
      have HOA := hideM (fun A t => HO.out.below ((Below.refl _ _).alloc (Nat.le_refl _) (.cells A t)))
      have hBw : B ≤ wr.heap.size := Nat.le_trans hB HB.out.size
      have HBA := hideM (fun A t => HB.out.trans (((Below.refl _ _).alloc (Nat.le_refl _) (.cells A t)).mono hBw))
      have HZL : Hid (Z.length = L.length + k) := by show _ = _; rw [HZ.out, List.length_append, lowB_len]
      clear hb hy hK
      go_wp2_with (at_builtin; refine wpList_append_row _ rfl _ _ 22 rfl B 5 i0 (.int .u8 0) 1 Tryz.underlying22 hi hz0 hz1 hz2 rfl (.slice ao' Z.length cap') Z.length (Z.map (Value.int .u8)) rfl (HOA.out _ _) (some ⟨wr.heap.size, 0, none⟩) 1 [(b : Int)] rfl (row_oneB wr b 5) (fun e => by cases e) (by unfold maxLen; simp; omega) (by simp; omega) (by simp; omega) ?_)
      intro v' w2 hown hgrow hat
      have hown2 : w2.ownsRow B 5 1 v' (Z.length + 1) ((Z ++ [(b : Int)]).map (Value.int .u8)) := by
        rw [List.map_append]
        exact hown
      obtain ⟨ao2, cap2, rfl, ho2⟩ := OwnsB.of hown2
      rw [blk_own] at hgrow
      rw [blk_own, blk_own] at hat
      have HB2 := hideM ((HBA.out _ _).grown hgrow (by simp; omega) (fun q e => HO.out.base q e))
      have hwz : w.heap.size ≤ wr.heap.size := HG.out.size
      have HG2 := hideM (grownBy_row (grownBy_row HG.out (World.grownBy_alloc wr (.cells #[.int .u8 (b : Int)] 5) none) (fun g e => by cases e)) hgrow (fun g e => HF.out g e))
      have HF2 : Hid (∀ g, blk ao2 = some g → blk ao = some g ∨ w.heap.size ≤ g) := fun g e => by
        rcases hat with h | h
        · exact HF.out g (h ▸ e)
        · rw [h] at e
          simp at e
          exact .inr (by omega)
      have HO2 := hideM ho2
      have hl2 : (Z ++ [(b : Int)]).length ≤ 1000100 := by rw [List.length_append, HZL.out]; simp; omega
      generalize Z ++ [(b : Int)] = Z2 at *
      clear hown hown2 hgrow hat ho2 HOA HBA
      go_wp2_with fail
      exact ⟨⟨k + 1, ao2, cap2, Z2, by omega, by go_num, rfl, hl2, HZ2, HO2, HG2, HB2, HF2⟩, by simp [intOf]; omega⟩
    · have e : k = n := by omega
      subst e
      have hZe := HZ.out
      subst hZe
      go_wp2_with fail
      go_ret
      exact ⟨ao', cap', rfl, HO.out, HG.out, HB.out, HF.out⟩
set_option maxRecDepth 100000 in
theorem appendHigh_any (B : Nat) (ao : Option Addr) (cap X : Nat) (L : List Int) (w : World) (ho : OwnsB 5 B w ao cap L) (hB : B ≤ w.heap.size) (hX : X < 4294967296) (hl : L.length ≤ 1000000) :
    Calls Tryz.prog 20 #[.slice ao L.length cap, .int .u32 (X : Nat)] w fun e w' => ∃ ao' cap', e = .returned (.slice ao' (L ++ lowB (rb4 X) 4).length cap') ∧ OwnsB 5 B w' ao' cap' (L ++ lowB (rb4 X) 4) ∧ w.grownBy w' (blk ao) ∧ Below B w w' ∧ ∀ g, blk ao' = some g → blk ao = some g ∨ w.heap.size ≤ g := by
  have HR := hideM (revb_any X hX w)
  have HL := hideM (appendLow_any B ao cap (rb4 X) 4 L w ho hB (by decide) (rb4_lt X) hl)
  have hlt := rb4_lt X
  clear ho
  generalize rb4 X = R at *
  obtain ⟨Z, hZ⟩ : ∃ Z, L ++ lowB R 4 = Z := ⟨_, rfl⟩
  rw [hZ] at HL ⊢
  clear hZ
  go_enter Tryz.func20, Tryz.ntmps20
  go_wp2_with fail
  refine Calls.mono HR.out ?_
  rintro e w1 ⟨rfl, hw1⟩
  obtain rfl := hw1.symm
  go_wp2_with fail
  refine Calls.mono HL.out ?_
  rintro e w2 ⟨a2, c2, rfl, ho2, hg2, hb2, hf2⟩
  have O2 := hideM ho2
  have G2 := hideM hg2
  have B2 := hideM hb2
  have F2 := hideM hf2
  clear ho2 hg2 hb2 hf2 HL HR
  go_wp2_with fail
  go_ret
  exact ⟨a2, c2, rfl, O2.out, G2.out, B2.out, F2.out⟩
end Go.Proofs.YtbddkkfakkedaaaGreatDoor
namespace Go.Proofs.YtbddkkfakkedaaaGreatDoor
open Go.RowKit
attribute [local go_sem ↓] Go.wp_at_zero Go.wp_at_succ
set_option linter.unusedVariables false

/-- The two bytes of a zlib head as one number, the first byte times 256. -/
def zhd (I : Nat) (dc : Bool) : Nat := (I * 16 + 8) * 256 + (if dc then 32 else 0) + (31 - ((I * 16 + 8) * 256 + (if dc then 32 else 0)) % 31) % 31
def zpre (I : Nat) (d : List Int) : List Int := if d = [] then [((zhd I false / 256 : Nat) : Int), ((zhd I false % 256 : Nat) : Int)] else [((zhd I true / 256 : Nat) : Int), ((zhd I true % 256 : Nat) : Int)] ++ lowB (rb4 (Adl.adl d).toNat) 4
/-- A zlib code. -/
def zcode (I : Nat) (d zs : List Int) : List Int := zpre I d ++ (pk (fixAll zs) ++ lowB (rb4 (Adl.adl zs).toNat) 4)
theorem zhd_lt (I : Nat) (dc : Bool) (h : I ≤ 7) : zhd I dc < 65536 := by
  unfold zhd
  cases dc <;> simp <;> omega
theorem iencZ_no (info : Int) (a0 a2 : Option Addr) (n0 c0 n2 c2 : Nat) (w : World) (h : ¬ (0 ≤ info ∧ info ≤ 7)) :
    Calls Tryz.prog 6 #[.slice a0 n0 c0, .int .i64 info, .slice a2 n2 c2] w fun e w' => e = .returned (.slice none 0 0) ∧ w' = w := by
  have hw : wi info 7 = false := decide_eq_false h
  have HW := hideM (within_any info 7 w)
  rw [hw] at HW
  go_enter Tryz.func6, Tryz.ntmps6
  go_wp2_with fail
  refine Calls.mono HW.out ?_
  rintro e w1 ⟨rfl, hw1⟩
  obtain rfl := hw1.symm
  go_wp2_with fail
  go_ret
  exact ⟨rfl, rfl⟩
theorem own_two (W : World) (B : Nat) (x y : Int) (t : TypeId) (hB : B ≤ W.heap.size) : OwnsB t B (W.alloc (.cells #[.int .u8 x, .int .u8 y] t)) (some ⟨W.heap.size, 0, none⟩) 2 [x, y] :=
  World.ownsRow_lit W #[.int .u8 x, .int .u8 y] 2 hB (by unfold maxLen; omega) rfl
theorem adl_nat (zs : List Int) : ∃ X : Nat, Adl.adl zs = (X : Int) ∧ (Adl.adl zs).toNat = X ∧ X < 4294967296 := by
  have h := adl_bd zs
  exact ⟨(Adl.adl zs).toNat, by omega, rfl, by omega⟩
set_option maxRecDepth 100000 in
set_option maxHeartbeats 12800000 in
/-- The code, from its head on. -/
theorem iencZ_yes (I : Nat) (ao bo : Option Addr) (ca cb : Nat) (zs d : List Int) (w : World) (hI : I ≤ 7) (hr : Row w ao zs) (hz : Octets zs) (hca : zs.length ≤ ca) (hl : zs.length ≤ 10000) (hao : ∀ ad, ao = some ad → 0 < zs.length → ad.block < w.heap.size) (hrd : Row w bo d) (hd : Octets d) (hcb : d.length ≤ cb) (hld : d.length ≤ 10000) (hbo : ∀ ad, bo = some ad → 0 < d.length → ad.block < w.heap.size) :
    Calls Tryz.prog 6 #[.slice ao zs.length ca, .int .i64 (I : Nat), .slice bo d.length cb] w fun e w' => ∃ a' c', e = .returned (.slice a' (zcode I d zs).length c') ∧ OwnsB 5 w.heap.size w' a' c' (zcode I d zs) ∧ Below w.heap.size w w' := by
  obtain ⟨i0, hi, hz0, hz1, hz2⟩ := info_parts Tryz.info_u8
  have hw : wi (I : Int) 7 = true := decide_eq_true ⟨by omega, by omega⟩
  have HW := hideM (within_any (I : Int) 7 w)
  rw [hw] at HW
  have hd1 : decide ((zs.length : Int) > 100000) = false := decide_eq_false (by omega)
  obtain ⟨X, hX, hX2, hXl⟩ := adl_nat zs
  obtain ⟨Y, hY, hY2, hYl⟩ := adl_nat d
  have HR := hideM hr
  have HZ := hideM hz
  have HAO := hideM hao
  have HRD := hideM hrd
  have HD := hideM hd
  have HBO := hideM hbo
  obtain ⟨P, hP⟩ : ∃ P, pk (fixAll zs) = P := ⟨_, rfl⟩
  have hPl : P.length ≤ 20000 := by
    rw [← hP, pk_len]
    unfold fixAll
    have h1 := fixB_len zs zs.length
    have h2 := cbits_len 256
    rw [List.length_append]
    omega
  have EF := hideM (fun W h => iencF_yes ao ca zs W h hz (by omega))
  have AZ := hideM (fun W h => adl_first ao ca zs zs.length rfl W h hz hca (by omega))
  have AD := hideM (fun W h => adl_first bo cb d d.length rfl W h hd hcb (by omega))
  rw [hX] at AZ
  rw [hY] at AD
  rw [hP] at EF
  clear hr hz hao hrd hd hbo
  by_cases he : d = []
  · subst he
    have HZC0 : Hid (zcode I [] zs = ([((zhd I false / 256 : Nat) : Int), ((zhd I false % 256 : Nat) : Int)] ++ P) ++ lowB (rb4 X) 4) := by
      show _ = _
      unfold zcode zpre
      rw [if_pos rfl, hP, hX2, List.append_assoc]
    obtain ⟨ZC, hZC⟩ : ∃ ZC, zcode I [] zs = ZC := ⟨_, rfl⟩
    rw [hZC] at HZC0 ⊢
    obtain ⟨H, hH⟩ : ∃ H : Nat, zhd I false = H := ⟨_, rfl⟩
    have hHl : H < 65536 := hH ▸ zhd_lt I false hI
    have HHi : Hid (((I : Int) * 16 + 8) * 256 + -((((I : Int) * 16 + 8) * 256) % 31) % 31 = (H : Int)) := by
      show _ = _
      rw [← hH]
      unfold zhd
      simp
      omega
    rw [hH] at HZC0
    obtain ⟨H1, hH1⟩ : ∃ H1 : Nat, H / 256 = H1 := ⟨_, rfl⟩
    obtain ⟨H2, hH2⟩ : ∃ H2 : Nat, H % 256 = H2 := ⟨_, rfl⟩
    rw [hH1, hH2] at HZC0
    have hq1 : (H : Int) / 256 = (H1 : Int) := by omega
    have hq2 : IntKind.u8.wrap (H1 : Int) = (H1 : Int) := by rw [IntKind.wrap_u8]; omega
    have hq3 : IntKind.u8.wrap (H : Int) = (H2 : Int) := by rw [IntKind.wrap_u8]; omega
    have hq4 : (H1 : Int) % 256 = (H1 : Int) := by omega
    have hq5 : (H : Int) % 256 = (H2 : Int) := by omega
    have O1 := hideM (own_two w w.heap.size (H1 : Int) (H2 : Int) 5 (Nat.le_refl _))
    have B1 : Hid (Below w.heap.size w (w.alloc (.cells #[.int .u8 (H1 : Int), .int .u8 (H2 : Int)] 5))) := (Below.refl _ _).alloc (Nat.le_refl _) _
    clear hH hP hX hX2 hY hY2 hZC hH1 hH2
    go_enter Tryz.func6, Tryz.ntmps6
    go_wp2_with fail
    refine Calls.mono HW.out ?_
    rintro e w1 ⟨rfl, hw1⟩
    obtain rfl := hw1.symm
    clear HW
    go_upto_region 7 with fail
    rw [HHi.out]
    clear HHi
    go_upto_region 8 with fail
    have hsz : w.heap.size < (w.alloc (.cells #[.int .u8 (H1 : Int), .int .u8 (H2 : Int)] 5)).heap.size := by simp
    generalize w.alloc (.cells #[.int .u8 (H1 : Int), .int .u8 (H2 : Int)] 5) = W1 at *
    obtain ⟨L, hLe⟩ : ∃ L, [(H1 : Int), (H2 : Int)] = L := ⟨_, rfl⟩
    have hL : L.length ≤ 100 := by rw [← hLe]; simp
    have HL2 : Hid (L.length = 2) := by show _ = _; rw [← hLe]; rfl
    rw [hLe] at O1
    have HL := hideM hLe
    have HZC := HZC0
    have O2 := O1
    have B2 := B1
    have hB2 : w.heap.size ≤ W1.heap.size := by omega
    obtain ⟨a1, ha1⟩ : ∃ a1 : Option Addr, some ⟨w.heap.size, 0, none⟩ = a1 := ⟨_, rfl⟩
    obtain ⟨c1, hc1⟩ : ∃ c1 : Nat, 2 = c1 := ⟨_, rfl⟩
    have HV : Hid (Value.slice (some ⟨w.heap.size, 0, none⟩) 2 2 = .slice a1 L.length c1) := by show _ = _; rw [HL2.out, ha1, ← hc1]
    rw [ha1, hc1] at O2
    rw [HV.out]
    clear O1 B1 HZC0 hLe ha1 hc1 HV HL2 hsz hd1
    have R2 := hideM (HR.out.beneath B2.out HAO.out)
    go_wp2_with fail
    refine Calls.mono (EF.out _ R2.out) ?_
    rintro e w3 ⟨a3, c3, rfl, ho3, hb3⟩
    have hs3 : W1.heap.size ≤ w3.heap.size := hb3.size
    have O3 := hideM (OwnsB.below O2.out hb3)
    have M3 : Hid (Mine W1.heap.size w3 a3 c3 P) := OwnsB.mine (e := 5) ho3
    have B3 := hideM (B2.out.trans (hb3.mono hB2))
    clear ho3 hb3 O2 R2 B2
    go_wp2_with (at_builtin; refine wpList_append_row _ rfl _ _ 22 rfl w.heap.size 5 i0 (.int .u8 0) 1 Tryz.underlying22 hi hz0 hz1 hz2 rfl (.slice a1 L.length c1) L.length (L.map (Value.int .u8)) rfl O3.out a3 c3 P rfl M3.out.row M3.out.nil_len (by unfold maxLen; omega) (by omega) (by omega) ?_)
    intro v4 w4 hown4 hgrow4 hat4
    rw [← List.map_append] at hown4
    obtain ⟨a4, c4, rfl, ho4⟩ := OwnsB.of hown4
    rw [blk_own] at hgrow4
    have hs4 : w3.heap.size ≤ w4.heap.size := hgrow4.size
    have B4 := hideM (B3.out.grown hgrow4 (by omega) (fun g e => O3.out.base g e))
    have R4 := hideM (HR.out.beneath B4.out HAO.out)
    have hL4 : (L ++ P).length ≤ 20100 := by rw [List.length_append]; omega
    obtain ⟨L4, hL4e⟩ : ∃ L4, L ++ P = L4 := ⟨_, rfl⟩
    rw [hL4e] at ho4 hL4 ⊢
    have HL4 := hideM hL4e
    have AH := hideM (appendHigh_any w.heap.size a4 c4 X L4 w4 ho4 (by omega) hXl (by omega))
    obtain ⟨L5, hL5e⟩ : ∃ L5, L4 ++ lowB (rb4 X) 4 = L5 := ⟨_, rfl⟩
    rw [hL5e] at AH
    have HL5 := hideM hL5e
    clear hown4 hgrow4 hat4 ho4 O3 M3 B3 hL4e hL5e
    go_wp2_with fail
    refine Calls.mono (AZ.out _ R4.out) ?_
    rintro e w5 ⟨rfl, hw5⟩
    obtain rfl := hw5.symm
    go_wp2_with fail
    refine Calls.mono AH.out ?_
    rintro e w6 ⟨a6, c6, rfl, ho6, hg6, hb6, _⟩
    have O6 := hideM ho6
    have B6 := hideM (B4.out.trans hb6)
    clear ho6 hg6 hb6 AH B4 R4
    have HE : Hid (ZC = L5) := by
      show _ = _
      rw [HZC.out, HL.out, HL4.out, HL5.out]
    have hE := HE.out
    subst hE
    clear HE HZC HL HL4 HL5
    go_wp2_with fail
    go_ret
    exact ⟨a6, c6, rfl, O6.out, B6.out⟩
  · have hdl0 : 1 ≤ d.length := Nat.one_le_iff_ne_zero.2 (fun h => he (List.eq_nil_of_length_eq_zero h))
    have HZC0 : Hid (zcode I d zs = (([((zhd I true / 256 : Nat) : Int), ((zhd I true % 256 : Nat) : Int)] ++ lowB (rb4 Y) 4) ++ P) ++ lowB (rb4 X) 4) := by
      show _ = _
      unfold zcode zpre
      rw [if_neg he, hP, hX2, hY2]
      simp only [List.append_assoc]
    obtain ⟨ZC, hZC⟩ : ∃ ZC, zcode I d zs = ZC := ⟨_, rfl⟩
    rw [hZC] at HZC0 ⊢
    obtain ⟨H, hH⟩ : ∃ H : Nat, zhd I true = H := ⟨_, rfl⟩
    have hHl : H < 65536 := hH ▸ zhd_lt I true hI
    have HHi : Hid (((I : Int) * 16 + 8) * 256 + 32 + -((((I : Int) * 16 + 8) * 256 + 32) % 31) % 31 = (H : Int)) := by
      show _ = _
      rw [← hH]
      unfold zhd
      simp
      omega
    rw [hH] at HZC0
    obtain ⟨H1, hH1⟩ : ∃ H1 : Nat, H / 256 = H1 := ⟨_, rfl⟩
    obtain ⟨H2, hH2⟩ : ∃ H2 : Nat, H % 256 = H2 := ⟨_, rfl⟩
    rw [hH1, hH2] at HZC0
    have hq1 : (H : Int) / 256 = (H1 : Int) := by omega
    have hq2 : IntKind.u8.wrap (H1 : Int) = (H1 : Int) := by rw [IntKind.wrap_u8]; omega
    have hq3 : IntKind.u8.wrap (H : Int) = (H2 : Int) := by rw [IntKind.wrap_u8]; omega
    have hq4 : (H1 : Int) % 256 = (H1 : Int) := by omega
    have hq5 : (H : Int) % 256 = (H2 : Int) := by omega
    have O1 := hideM (own_two w w.heap.size (H1 : Int) (H2 : Int) 5 (Nat.le_refl _))
    have B1 : Hid (Below w.heap.size w (w.alloc (.cells #[.int .u8 (H1 : Int), .int .u8 (H2 : Int)] 5))) := (Below.refl _ _).alloc (Nat.le_refl _) _
    clear hH hP hX hX2 hY hY2 hZC hH1 hH2
    go_enter Tryz.func6, Tryz.ntmps6
    go_wp2_with fail
    refine Calls.mono HW.out ?_
    rintro e w1 ⟨rfl, hw1⟩
    obtain rfl := hw1.symm
    clear HW
    go_upto_region 7 with fail
    rw [HHi.out]
    clear HHi
    go_upto_region 8 with fail
    have hsz : w.heap.size < (w.alloc (.cells #[.int .u8 (H1 : Int), .int .u8 (H2 : Int)] 5)).heap.size := by simp
    generalize w.alloc (.cells #[.int .u8 (H1 : Int), .int .u8 (H2 : Int)] 5) = W1 at *
    have R1 := hideM (HRD.out.beneath B1.out HBO.out)
    have AH1 := hideM (appendHigh_any w.heap.size (some ⟨w.heap.size, 0, none⟩) 2 Y [(H1 : Int), (H2 : Int)] W1 O1.out (by omega) hYl (by simp))
    obtain ⟨L, hLe⟩ : ∃ L, [(H1 : Int), (H2 : Int)] ++ lowB (rb4 Y) 4 = L := ⟨_, rfl⟩
    have hL : L.length ≤ 100 := by rw [← hLe, List.length_append, lowB_len]; simp
    rw [hLe] at AH1
    have HL := hideM hLe
    have HZC := HZC0
    have hdl : decide ((d.length : Int) > 0) = true := decide_eq_true (by have : d.length ≠ 0 := fun h => he (List.eq_nil_of_length_eq_zero h); omega)
    clear hLe HZC0 O1 hd1
    go_wp2_with fail
    refine Calls.mono (AD.out _ R1.out) ?_
    rintro e w1 ⟨rfl, hw1⟩
    obtain rfl := hw1.symm
    go_wp2_with fail
    refine Calls.mono AH1.out ?_
    rintro e w2 ⟨a1, c1, rfl, ho2, hg2, hb2, _⟩
    have O2 := hideM ho2
    have B2 := hideM (B1.out.trans hb2)
    have hB2 : w.heap.size ≤ w2.heap.size := by have := hb2.size; omega
    clear ho2 hg2 hb2 B1 R1 AH1 hdl
    have R2 := hideM (HR.out.beneath B2.out HAO.out)
    go_wp2_with fail
    refine Calls.mono (EF.out _ R2.out) ?_
    rintro e w3 ⟨a3, c3, rfl, ho3, hb3⟩
    have hs3 : w2.heap.size ≤ w3.heap.size := hb3.size
    have O3 := hideM (OwnsB.below O2.out hb3)
    have M3 : Hid (Mine w2.heap.size w3 a3 c3 P) := OwnsB.mine (e := 5) ho3
    have B3 := hideM (B2.out.trans (hb3.mono hB2))
    clear ho3 hb3 O2 R2 B2
    go_wp2_with (at_builtin; refine wpList_append_row _ rfl _ _ 22 rfl w.heap.size 5 i0 (.int .u8 0) 1 Tryz.underlying22 hi hz0 hz1 hz2 rfl (.slice a1 L.length c1) L.length (L.map (Value.int .u8)) rfl O3.out a3 c3 P rfl M3.out.row M3.out.nil_len (by unfold maxLen; omega) (by omega) (by omega) ?_)
    intro v4 w4 hown4 hgrow4 hat4
    rw [← List.map_append] at hown4
    obtain ⟨a4, c4, rfl, ho4⟩ := OwnsB.of hown4
    rw [blk_own] at hgrow4
    have hs4 : w3.heap.size ≤ w4.heap.size := hgrow4.size
    have B4 := hideM (B3.out.grown hgrow4 (by omega) (fun g e => O3.out.base g e))
    have R4 := hideM (HR.out.beneath B4.out HAO.out)
    have hL4 : (L ++ P).length ≤ 20100 := by rw [List.length_append]; omega
    obtain ⟨L4, hL4e⟩ : ∃ L4, L ++ P = L4 := ⟨_, rfl⟩
    rw [hL4e] at ho4 hL4 ⊢
    have HL4 := hideM hL4e
    have AH := hideM (appendHigh_any w.heap.size a4 c4 X L4 w4 ho4 (by omega) hXl (by omega))
    obtain ⟨L5, hL5e⟩ : ∃ L5, L4 ++ lowB (rb4 X) 4 = L5 := ⟨_, rfl⟩
    rw [hL5e] at AH
    have HL5 := hideM hL5e
    clear hown4 hgrow4 hat4 ho4 O3 M3 B3 hL4e hL5e
    go_wp2_with fail
    refine Calls.mono (AZ.out _ R4.out) ?_
    rintro e w5 ⟨rfl, hw5⟩
    obtain rfl := hw5.symm
    go_wp2_with fail
    refine Calls.mono AH.out ?_
    rintro e w6 ⟨a6, c6, rfl, ho6, hg6, hb6, _⟩
    have O6 := hideM ho6
    have B6 := hideM (B4.out.trans hb6)
    clear ho6 hg6 hb6 AH B4 R4
    have HE : Hid (ZC = L5) := by
      show _ = _
      rw [HZC.out, HL.out, HL4.out, HL5.out]
    have hE := HE.out
    subst hE
    clear HE HZC HL HL4 HL5
    go_wp2_with fail
    go_ret
    exact ⟨a6, c6, rfl, O6.out, B6.out⟩
end Go.Proofs.YtbddkkfakkedaaaGreatDoor
