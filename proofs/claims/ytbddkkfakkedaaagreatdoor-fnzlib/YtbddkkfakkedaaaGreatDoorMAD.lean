import Derived.Test.YtbddkkfakkedaaaGreatDoorProg
import Derived.Laws.BitsAllLaws
import Derived.Test.YtbddkkfakkedaaaGreatDoorMAC
namespace Go.Proofs.YtbddkkfakkedaaaGreatDoor
open Go.RowKit
attribute [local go_sem ↓] Go.wp_at_zero Go.wp_at_succ

theorem i64_and255 (n : Int) : bits .and .i64 n 255 = n % 256 := by
  have h1 : (BitVec.ofInt 64 255).toNat = 2 ^ 8 - 1 := by decide
  have key : (BitVec.ofInt 64 n &&& BitVec.ofInt 64 255).toNat = (n % ((2 ^ 64 : Nat) : Int)).toNat % 2 ^ 8 := by
    rw [BitVec.toNat_and, BitVec.toNat_ofInt, h1, Nat.and_two_pow_sub_one_eq_mod]
  show IntKind.i64.wrap ((BitVec.ofInt 64 n &&& BitVec.ofInt 64 255).toNat : Nat) = n % 256
  rw [key, IntKind.wrap_i64]
  omega

theorem src_set1 {w : World} {p : Nat} {v : Value} {a u : Int} (h : Src w p v a u) (a' : Int) :
    Src (w.setCell ⟨p, 1, none⟩ (.int .i64 a')) p v a' u ∧ w.grownBy (w.setCell ⟨p, 1, none⟩ (.int .i64 a')) (some p) := by
  obtain ⟨c0, c1, c2, f0, f1, f2⟩ := h
  refine ⟨⟨?_, ?_, ?_, ?_, ?_, ?_⟩, grownBy_setCell w ⟨p, 1, none⟩ _⟩
  · rw [World.cell?_setCell_other _ _ _ _ (by simp)]; exact c0
  · exact World.cell?_setCell_same _ _ _ c1
  · rw [World.cell?_setCell_other _ _ _ _ (by simp)]; exact c2
  · simp [World.frozen?_setCell, f0]
  · simp [World.frozen?_setCell, f1]
  · simp [World.frozen?_setCell, f2]
theorem src_set2 {w : World} {p : Nat} {v : Value} {a u : Int} (h : Src w p v a u) (u' : Int) :
    Src (w.setCell ⟨p, 2, none⟩ (.int .i64 u')) p v a u' ∧ w.grownBy (w.setCell ⟨p, 2, none⟩ (.int .i64 u')) (some p) := by
  obtain ⟨c0, c1, c2, f0, f1, f2⟩ := h
  refine ⟨⟨?_, ?_, ?_, ?_, ?_, ?_⟩, grownBy_setCell w ⟨p, 2, none⟩ _⟩
  · rw [World.cell?_setCell_other _ _ _ _ (by simp)]; exact c0
  · rw [World.cell?_setCell_other _ _ _ _ (by simp)]; exact c1
  · exact World.cell?_setCell_same _ _ _ c2
  · simp [World.frozen?_setCell, f0]
  · simp [World.frozen?_setCell, f1]
  · simp [World.frozen?_setCell, f2]

theorem grownBy_same {a b b' : World} {r : Option Nat} (h : a.grownBy b r) (e1 : b'.os = b.os) (e2 : b'.tape = b.tape) (e3 : b'.output = b.output) (e4 : b'.heap = b.heap) : a.grownBy b' r :=
  ⟨e1.trans h.os, e2.trans h.tape, e3.trans h.output, by rw [e4]; exact h.size, fun k hk hne => by rw [e4]; exact h.block k hk hne⟩

theorem Row.grown0 {w w' : World} {row : Option Nat} {ao : Option Addr} {zs : List Int} (h : Row w ao zs) (hg : w.grownBy w' row) (hne : ∀ ad, ao = some ad → 0 < zs.length → some ad.block ≠ row) : Row w' ao zs := by
  intro i hi
  obtain ⟨b, off, rfl, hc⟩ := h i hi
  exact ⟨b, off, rfl, hg.cell hc (hne ⟨b, off, none⟩ rfl (by omega))⟩
theorem Row.lives {w : World} {ao : Option Addr} {zs : List Int} (h : Row w ao zs) : ∀ ad, ao = some ad → 0 < zs.length → ad.block < w.heap.size := by
  intro ad e h0
  obtain ⟨b, off, rfl, hc⟩ := h 0 h0
  simp only [Option.some.injEq] at e
  subst e
  exact World.block_lt_of_cell? w _ hc

/-- A cursor: its block, the code's row, how far it is. -/
def Cur (w : World) (p : Nat) (co : Option Addr) (cc : Nat) (cs : List Int) : Prop :=
  ∃ i : Nat, ∃ h : Int, i ≤ cs.length ∧ Src w p (.slice co cs.length cc) i h ∧ Row w co cs ∧ Octets cs ∧ (∀ ad, co = some ad → 0 < cs.length → ad.block ≠ p) ∧ cs.length ≤ 1048576

theorem Cur.grown {w w' : World} {p : Nat} {co : Option Addr} {cc : Nat} {cs : List Int} {row : Option Nat} (h : Cur w p co cc cs) (hg : w.grownBy w' row) (hp : some p ≠ row) (hc : ∀ ad, co = some ad → 0 < cs.length → some ad.block ≠ row) : Cur w' p co cc cs := by
  obtain ⟨i, x, h1, h2, h3, h4, h5, h6⟩ := h
  exact ⟨i, x, h1, h2.grown hg hp, h3.grown0 hg hc, h4, h5, h6⟩
theorem Cur.lt {w : World} {p : Nat} {co : Option Addr} {cc : Nat} {cs : List Int} (h : Cur w p co cc cs) : p < w.heap.size := by
  obtain ⟨i, x, h1, h2, _⟩ := h
  exact World.block_lt_of_cell? w _ h2.1

set_option maxHeartbeats 3200000 in
/-- spec.l1Byte: some byte. -/
theorem l1Byte_any (p : Nat) (co : Option Addr) (cc : Nat) (cs : List Int) (w : World) (hc : Cur w p co cc cs) :
    Calls Tryz.prog 40 #[.pointer (some ⟨p, 0, none⟩)] w fun e w' => (∃ x : Int, e = .returned (.int .i64 x) ∧ 0 ≤ x ∧ x ≤ 255) ∧ Cur w' p co cc cs ∧ w.grownBy w' (some p) := by
  obtain ⟨i, h, hi, hs, hr, ho, hne, hl⟩ := hc
  have hs' := hs
  obtain ⟨c0, c1, c2, f0, f1, f2⟩ := hs'
  obtain ⟨k1, k2⟩ := src_set2 hs (wrap64 (wrap64 (h * 6364136223846793005) + 1442695040888963407))
  have hr1 := hr.grown0 k2 (fun ad e h0 he => hne ad e h0 (by simpa using he))
  have hr2 : ∀ q, Row ((w.setCell ⟨p, 2, none⟩ (.int .i64 (wrap64 (wrap64 (h * 6364136223846793005) + 1442695040888963407)))).drewN q) co cs := fun q => hr1
  by_cases hlt : i < cs.length
  · have hd : decide ((i : Int) < (cs.length : Int)) = true := decide_eq_true (by omega)
    have hi0 : (0 : Int) ≤ (i : Int) := by omega
    have hi1 : (i : Int) < (cs.length : Int) := by omega
    obtain ⟨b, off, rfl, hcell⟩ := hr.at hlt
    have hck := hcell i hlt
    have hbp : b ≠ p := hne ⟨b, off, none⟩ rfl (by omega)
    obtain ⟨m1, m2⟩ := src_set1 k1 ((i : Int) + 1)
    have hr3 := hr1.grown0 m2 (fun ad e h0 he => hne ad e h0 (by simpa using he))
    have hxb := ho.getD i
    clear hs hcell hr2 hr1 hr
    generalize cs.getD i 0 = x at *
    go_enter Tryz.func40, Tryz.ntmps40
    go_wp2_with fail
    go_quiet (fail)
    go_wp2_with fail
    go_quiet (fail)
    go_wp2_with fail
    go_quiet (fail)
    go_wp2_with fail
    go_ret
    refine ⟨⟨_, rfl, ?_⟩, ?_, ?_⟩
    · show 0 ≤ bits .and .i64 _ 255 ∧ bits .and .i64 _ 255 ≤ 255
      rw [i64_and255]
      omega
    · exact ⟨i + 1, _, by omega, by rw [Int.natCast_add]; exact m1, hr3, ho, hne, hl⟩
    · exact grownBy_same (grownBy_trans k2 m2) rfl rfl rfl rfl
  · have hd : decide ((i : Int) < (cs.length : Int)) = false := decide_eq_false (by omega)
    clear hs hr
    go_enter Tryz.func40, Tryz.ntmps40
    go_wp2_with fail
    go_quiet (fail)
    go_wp2_with fail
    go_quiet (fail)
    go_wp2_with fail
    go_ret
    refine ⟨⟨_, rfl, ?_⟩, ?_, ?_⟩
    · show 0 ≤ bits .and .i64 _ 255 ∧ bits .and .i64 _ 255 ≤ 255
      rw [i64_and255]
      omega
    · exact ⟨i, _, by omega, k1, hr2 0, ho, hne, hl⟩
    · exact grownBy_same k2 rfl rfl rfl rfl

set_option maxHeartbeats 1600000 in
/-- spec.l1Below: a number below n. -/
theorem l1Below_any (p : Nat) (co : Option Addr) (cc : Nat) (cs : List Int) (n : Int) (w : World) (hc : Cur w p co cc cs) (n0 : 1 ≤ n) (n1 : n ≤ 1000000) :
    Calls Tryz.prog 16 #[.pointer (some ⟨p, 0, none⟩), .int .i64 n] w fun e w' => (∃ x : Int, e = .returned (.int .i64 x) ∧ 0 ≤ x ∧ x < n) ∧ Cur w' p co cc cs ∧ w.grownBy w' (some p) := by
  by_cases h : n ≤ 256
  · go_enter Tryz.func16, Tryz.ntmps16
    go_wp2_with fail
    refine (l1Byte_any p co cc cs w hc).mono ?_
    rintro e w1 ⟨⟨x, rfl, x0, x1⟩, hc1, hg1⟩
    have hne : (n == 0) = false := by simp; omega
    go_wp2_with fail
    go_ret
    exact ⟨⟨_, rfl, Int.emod_nonneg _ (by omega), Int.emod_lt_of_pos _ (by omega)⟩, hc1, hg1⟩
  · go_enter Tryz.func16, Tryz.ntmps16
    go_wp2_with fail
    refine (l1Byte_any p co cc cs w hc).mono ?_
    rintro e w1 ⟨⟨x, rfl, x0, x1⟩, hc1, hg1⟩
    go_wp2_with fail
    refine (l1Byte_any p co cc cs w1 hc1).mono ?_
    rintro e w2 ⟨⟨y, rfl, y0, y1⟩, hc2, hg2⟩
    go_wp2_with fail
    refine (l1Byte_any p co cc cs w2 hc2).mono ?_
    rintro e w3 ⟨⟨z, rfl, z0, z1⟩, hc3, hg3⟩
    have hne : (n == 0) = false := by simp; omega
    go_wp2_with fail
    go_ret
    exact ⟨⟨_, rfl, Int.emod_nonneg _ (by omega), Int.emod_lt_of_pos _ (by omega)⟩, hc3, grownBy_trans (grownBy_trans hg1 hg2) hg3⟩

theorem own1 (W : World) (base e g : Nat) (hb : base ≤ W.heap.size) (hg : W.heap.size = g) : (W.alloc (.cells #[] e)).ownsRow base e 1 (.slice (some ⟨g, 0, none⟩) 0 0) 0 [] := by
  subst hg
  exact World.ownsRow_lit W #[] 0 hb (by unfold maxLen; omega) rfl

/-- One byte more onto the call's own row. -/
theorem row_one (w : World) (x : Int) (t : TypeId) : Row (w.alloc (.cells #[.int .u8 x] t)) (some ⟨w.heap.size, 0, none⟩) [x] := by
  refine Row.of fun i hi => ?_
  simp at hi
  subst hi
  simp [go_sem]

theorem grownBy_new {a b c : World} {p : Nat} {r : Option Nat} (h : a.grownBy b (some p)) (k : b.grownBy c r) (hr : ∀ g, r = some g → a.heap.size ≤ g ∨ g = p) : a.grownBy c (some p) := by
  refine ⟨k.os.trans h.os, k.tape.trans h.tape, k.output.trans h.output, Nat.le_trans h.size k.size, fun j hj hne => ?_⟩
  rw [k.block j (Nat.lt_of_lt_of_le hj h.size) ?_, h.block j hj hne]
  intro e
  rcases hr j e.symm with h1 | h1
  · omega
  · exact hne (by rw [h1])

set_option maxRecDepth 100000 in
set_option maxHeartbeats 3200000 in
/-- spec.l1Some: n bytes of the call's own. -/
theorem l1Some_any (p : Nat) (co : Option Addr) (cc : Nat) (cs : List Int) (n : Nat) (w : World) (hc : Cur w p co cc cs) (hn : n ≤ 1000) (hco : ∀ ad, co = some ad → 0 < cs.length → ad.block < w.heap.size) :
    Calls Tryz.prog 39 #[.pointer (some ⟨p, 0, none⟩), .int .i64 n] w fun e w' => (∃ ao cap zs, e = .returned (.slice ao zs.length cap) ∧ OwnsB 5 w.heap.size w' ao cap zs ∧ Octets zs ∧ zs.length = n) ∧ Cur w' p co cc cs ∧ w.grownBy w' (some p) := by
  obtain ⟨i0, hi, hz0, hz1, hz2⟩ := info_parts Tryz.info_u8s
  have hp := hc.lt
  have HCO : Hid (∀ ad, co = some ad → 0 < cs.length → ad.block < w.heap.size) := hco
  clear hco
  have hc0 := hc.grown (World.grownBy_alloc w (.cells #[] 5) none) (by simp) (by simp)
  have ho0 : OwnsB 5 w.heap.size (w.alloc (.cells #[] 5)) (some ⟨w.heap.size, 0, none⟩) 0 [] := own1 w _ _ _ (Nat.le_refl _) rfl
  have hg0 : w.grownBy (w.alloc (.cells #[] 5)) (some p) := World.grownBy_alloc w _ _
  go_enter Tryz.func39, Tryz.ntmps39
  go_wp2_with fail
  go_loopw [5, 6] (fun v i wr => ∃ k : Nat, k ≤ n ∧ i = .int .i64 k ∧ ∃ ao cap zs, v = .slice ao zs.length cap ∧ Hid (zs.length = k) ∧ Octets zs ∧ OwnsB 5 w.heap.size wr ao cap zs ∧ Cur wr p co cc cs ∧ w.grownBy wr (some p)) (fun _ i _ => n - (intOf i).toNat)
  case atStart => exact ⟨0, Nat.zero_le _, rfl, _, 0, [], rfl, rfl, (fun z hz => by cases hz), ho0, hc0, hg0⟩
  case round =>
    clear hc hc0 ho0 hg0
    obtain ⟨k, hk, rfl, ao, cap, zs, rfl, HL, hoct, ho, hc, hg⟩ := hrel
    by_cases hlt : k < n
    · go_wp2_with fail
      refine (l1Byte_any p co cc cs wr hc).mono ?_
      rintro e w1 ⟨⟨x, rfl, x0, x1⟩, hc1, hg1⟩
      have hfar : blk ao ≠ some p := ho.mine.far hp
      have ho1 := ho.grown hg1 (by intro j e; simp at e; subst e; exact hfar)
      have hgA := grownBy_new hg hg1 (by intro g e; simp at e; exact .inr e.symm)
      have hal : w1.grownBy (w1.alloc (.cells #[.int .u8 x] 5)) none := World.grownBy_alloc w1 _ _
      have ho2 := ho1.grown hal (by intro j e; cases e)
      have hc2 := hc1.grown hal (by simp) (by simp)
      have hgB := grownBy_new hgA hal (by intro g e; cases e)
      have hx : x % 256 = x := by omega
      have hsz : zs.length ≤ 1000 := by have := HL.out; omega
      have hrow := row_one w1 x 5
      clear ho hc ho1 hc1 hg1 hg hgA hal
      go_wp2_with (at_builtin; refine wpList_append_row _ rfl _ _ 22 rfl w.heap.size 5 i0 (.int .u8 0) 1 Tryz.underlying22 hi hz0 hz1 hz2 rfl (.slice ao zs.length cap) zs.length (zs.map (Value.int .u8)) rfl ho2 (some ⟨w1.heap.size, 0, none⟩) 1 [x] rfl hrow (fun e => by cases e) (by unfold maxLen; simp; omega) (by simp; omega) (by have := hgB.size; omega) ?_)
      intro v' w2 hown hgrow hat
      rw [show zs.map (Value.int .u8) ++ [Value.int .u8 x] = (zs ++ [x]).map (Value.int .u8) from by simp] at hown
      obtain ⟨ao', cap', e', ho3⟩ := OwnsB.of hown
      subst e'
      have hob : (Value.slice ao zs.length cap).ownBlock = blk ao := by cases ao <;> rfl
      rw [hob] at hgrow
      have hbase : ∀ g, blk ao = some g → w.heap.size ≤ g := by
        intro g e
        rcases Nat.lt_or_ge g w.heap.size with h | h
        · exact absurd e (ho2.mine.far h)
        · exact h
      have hc3 := hc2.grown hgrow (fun e => hfar e.symm) (fun ad e h0 he => by have := HCO.out ad e h0; have := hbase _ he.symm; omega)
      have hgC := grownBy_new hgB hgrow (fun g e => .inl (hbase g e))
      have hoct' : Octets (zs ++ [x]) := by
        intro z hz
        rcases List.mem_append.1 hz with h | h
        · exact hoct z h
        · simp at h; subst h; exact ⟨x0, x1⟩
      have HL' : Hid ((zs ++ [x]).length = k + 1) := by show (zs ++ [x]).length = k + 1; simp; exact HL.out
      clear hown hat hgrow hob ho2 hc2 hgB hoct HL hrow hx
      generalize zs ++ [x] = zz at *
      go_wp2_with fail
      go_roundw
      case rel => exact ⟨k + 1, by omega, by go_num, ao', cap', zz, rfl, HL', hoct', ho3, hc3, hgC⟩
      case measure => simp [intOf]; omega
    · have e : k = n := by omega
      subst e
      go_wp2_with fail
      go_ret
      exact ⟨⟨ao, cap, zs, rfl, ho, hoct, HL.out⟩, hc, hg⟩

set_option maxHeartbeats 1600000 in
/-- spec.l1New: a cursor at the head. -/
theorem l1New_any (co : Option Addr) (cc : Nat) (cs : List Int) (w : World) (hr : Row w co cs) (hl : cs.length ≤ 1048576) :
    Calls Tryz.prog 14 #[.slice co cs.length cc] w fun e w' => ∃ p, e = .returned (.pointer (some ⟨p, 0, none⟩)) ∧ (∃ h, Src w' p (.slice co cs.length cc) 0 h) ∧ p = w.heap.size ∧ Below w.heap.size w w' ∧ p < w'.heap.size := by
  go_enter Tryz.func14, Tryz.ntmps14
  go_wp2_with fail
  go_loop [3, 4] (fun h i => ∃ k : Nat, ∃ x : Int, k ≤ cs.length ∧ i = .int .i64 k ∧ h = .int .i64 x) (fun _ i => cs.length - (intOf i).toNat)
  case atStart => exact ⟨0, _, Nat.zero_le _, rfl, rfl⟩
  case round =>
    obtain ⟨k, x, hk, rfl, rfl⟩ := hrel
    by_cases hlt : k < cs.length
    · obtain ⟨b, off, rfl, hc⟩ := hr.at hlt
      have hck := hc k hlt
      clear hc hr
      generalize cs.getD k 0 = y at *
      go_wp2_with fail
      go_round
      case rel => exact ⟨k + 1, _, by omega, by go_num, rfl⟩
      case measure => simp [intOf]; omega
    · clear hr
      go_wp2_with fail
      go_ret
      exact ⟨_, rfl, ⟨_, src_new w _ 0 x _⟩, rfl, (Below.refl _ _).alloc (Nat.le_refl _) _, by simp⟩

/-- spec.l1Once. -/
theorem l1Once_any (p : Nat) (co : Option Addr) (cc : Nat) (cs : List Int) (n : Int) (w : World) (hc : Cur w p co cc cs) (n0 : 1 ≤ n) (n1 : n ≤ 1000000) :
    Calls Tryz.prog 17 #[.pointer (some ⟨p, 0, none⟩), .int .i64 n] w fun e w' => (∃ b : Bool, e = .returned (.bool b)) ∧ Cur w' p co cc cs ∧ w.grownBy w' (some p) := by
  go_enter Tryz.func17, Tryz.ntmps17
  go_wp2_with fail
  refine (l1Below_any p co cc cs n w hc n0 n1).mono ?_
  rintro e w1 ⟨⟨k, rfl, k0, k1⟩, hc1, hg1⟩
  go_wp2_with fail
  go_ret
  exact ⟨⟨_, rfl⟩, hc1, hg1⟩

end Go.Proofs.YtbddkkfakkedaaaGreatDoor
namespace Go.Proofs.YtbddkkfakkedaaaGreatDoor
open Go.RowKit
attribute [local go_sem ↓] Go.wp_at_zero Go.wp_at_succ
set_option linter.unusedVariables false

theorem hide9 {p : Prop} (h : p) : Hid p := h
set_option maxRecDepth 100000 in
set_option maxHeartbeats 3200000 in
theorem l1Data_any (p : Nat) (co : Option Addr) (cc : Nat) (cs : List Int) (M : Nat) (w : World) (hc : Cur w p co cc cs) (hM0 : 1 ≤ M) (hM : M ≤ 200) (hco : ∀ ad, co = some ad → 0 < cs.length → ad.block < w.heap.size) :
    Calls Tryz.prog 15 #[.pointer (some ⟨p, 0, none⟩), .int .i64 (M : Nat)] w fun e w' => (∃ ao cap zs, e = .returned (.slice ao zs.length cap) ∧ OwnsB 5 w.heap.size w' ao cap zs ∧ Octets zs ∧ zs.length < M) ∧ Cur w' p co cc cs ∧ w.grownBy w' (some p) := by
  obtain ⟨i0, hi, hz0, hz1, hz2⟩ := info_parts Tryz.info_u8s
  have hp := hc.lt
  have HCO : Hid (∀ ad, co = some ad → 0 < cs.length → ad.block < w.heap.size) := hco
  have HC := hide9 hc
  clear hco hc
  go_enter Tryz.func15, Tryz.ntmps15
  go_wp2_with fail
  refine (l1Below_any p co cc cs (M : Nat) w HC.out (by omega) (by omega)).mono ?_
  rintro e w1 ⟨⟨nn, rfl, n0, n1⟩, hc1, hg1⟩
  obtain ⟨n, rfl⟩ := Int.eq_ofNat_of_zero_le n0
  have HC1 := hide9 hc1
  have HG1 := hide9 hg1
  clear hc1 hg1 HC n0
  go_wp2_with fail
  refine (l1Once_any p co cc cs 6 w1 HC1.out (by decide) (by decide)).mono ?_
  rintro e w2 ⟨⟨b, rfl⟩, hc2, hg2⟩
  have HC2 := hide9 hc2
  have HG2 := hide9 (grownBy_new HG1.out hg2 (fun g e => by simp at e; exact .inr e.symm))
  have hz2' : w.heap.size ≤ w2.heap.size := HG2.out.size
  clear hc2 hg2 HC1 HG1
  have HCO2 : Hid (∀ ad, co = some ad → 0 < cs.length → ad.block < w2.heap.size) := fun ad e h0 => by have := HCO.out ad e h0; omega
  cases b with
  | true =>
    go_wp2_with fail
    refine (l1Some_any p co cc cs n w2 HC2.out (by omega) HCO2.out).mono ?_
    rintro e w3 ⟨⟨ao, cap, zs, rfl, ho3, hoct, hlen⟩, hc3, hg3⟩
    have HL : Hid (zs.length = n) := hlen
    have HO3 := hide9 (ho3.mono (B' := w.heap.size) hz2')
    have HOC := hide9 hoct
    have HC3 := hide9 hc3
    have HG3 := hide9 (grownBy_new HG2.out hg3 (fun g e => by simp at e; exact .inr e.symm))
    clear hlen ho3 hoct hc3 hg3
    go_wp2_with fail
    go_ret
    exact ⟨⟨ao, cap, zs, rfl, HO3.out, HOC.out, by have := HL.out; omega⟩, HC3.out, HG3.out⟩
  | false =>
    have hc0 := HC2.out.grown (World.grownBy_alloc w2 (.cells #[] 5) none) (by simp) (by simp)
    have ho0 : OwnsB 5 w.heap.size (w2.alloc (.cells #[] 5)) (some ⟨w2.heap.size, 0, none⟩) 0 [] := own1 w2 _ _ _ hz2' rfl
    have hg0 : w.grownBy (w2.alloc (.cells #[] 5)) (some p) := grownBy_new HG2.out (World.grownBy_alloc w2 _ none) (fun g e => by cases e)
    have HC0 := hide9 hc0
    have HO0 := hide9 ho0
    have HG0 := hide9 hg0
    clear hc0 ho0 hg0
    go_wp2_with fail
    go_loopw [6, 7, 8] (fun v i _ wr => ∃ k : Nat, k ≤ n ∧ i = .int .i64 k ∧ ∃ ao cap zs, v = .slice ao zs.length cap ∧ Hid (zs.length = k) ∧ Hid (Octets zs) ∧ Hid (OwnsB 5 w.heap.size wr ao cap zs) ∧ Hid (Cur wr p co cc cs) ∧ Hid (w.grownBy wr (some p))) (fun _ i _ _ => n - (intOf i).toNat)
    case atStart => exact ⟨0, Nat.zero_le _, rfl, _, 0, [], rfl, rfl, (fun z hz => by cases hz), HO0, HC0, HG0⟩
    case round =>
      clear HC0 HO0 HG0 HC2 HG2
      obtain ⟨k, hk, rfl, ao, cap, zs, rfl, HL, HOC, HO, HCu, HG⟩ := hrel
      by_cases hlt : k < n
      · go_wp2_with fail
        refine (l1Below_any p co cc cs 3 wr HCu.out (by decide) (by decide)).mono ?_
        rintro e w1 ⟨⟨y, rfl, y0, y1⟩, hc1, hg1⟩
        have hfar : blk ao ≠ some p := HO.out.mine.far hp
        have ho1 := HO.out.grown hg1 (by intro j e; simp at e; subst e; exact hfar)
        have hgA := grownBy_new HG.out hg1 (by intro g e; simp at e; exact .inr e.symm)
        obtain ⟨x, hx⟩ : ∃ x : Int, 97 + y = x := ⟨_, rfl⟩
        have x0 : 0 ≤ x := by omega
        have x1 : x ≤ 255 := by omega
        have hxw : IntKind.u8.wrap x = x := by rw [IntKind.wrap_u8]; omega
        have hxm : x % 256 = x := by omega
        have hal : w1.grownBy (w1.alloc (.cells #[.int .u8 x] 5)) none := World.grownBy_alloc w1 _ _
        have ho2 := ho1.grown hal (by intro j e; cases e)
        have hc2 := hc1.grown hal (by simp) (by simp)
        have hgB := grownBy_new hgA hal (by intro g e; cases e)
        have hsz : zs.length ≤ 1000 := by have := HL.out; omega
        have HROW := hide9 (row_one w1 x 5)
        have HO2 := hide9 ho2
        have HC2 := hide9 hc2
        have HGB := hide9 hgB
        have HGS : Hid (w.heap.size ≤ (w1.alloc (.cells #[.int .u8 x] 5)).heap.size) := hgB.size
        clear HO HCu ho1 hc1 hg1 HG hgA hal ho2 hc2 hgB
        go_wp2_with (at_builtin; refine wpList_append_row _ rfl _ _ 22 rfl w.heap.size 5 i0 (.int .u8 0) 1 Tryz.underlying22 hi hz0 hz1 hz2 rfl (.slice ao zs.length cap) zs.length (zs.map (Value.int .u8)) rfl HO2.out (some ⟨w1.heap.size, 0, none⟩) 1 [x] rfl HROW.out (fun e => by cases e) (by unfold maxLen; simp; omega) (by simp; omega) HGS.out ?_)
        intro v' w2 hown hgrow hat
        rw [show zs.map (Value.int .u8) ++ [Value.int .u8 x] = (zs ++ [x]).map (Value.int .u8) from by simp] at hown
        obtain ⟨ao', cap', e', ho3⟩ := OwnsB.of hown
        subst e'
        have hob : (Value.slice ao zs.length cap).ownBlock = blk ao := by cases ao <;> rfl
        rw [hob] at hgrow
        have hbase : ∀ g, blk ao = some g → w.heap.size ≤ g := by
          intro g e
          rcases Nat.lt_or_ge g w.heap.size with h | h
          · exact absurd e (HO2.out.mine.far h)
          · exact h
        have HC3 := hide9 (HC2.out.grown hgrow (fun e => hfar e.symm) (fun ad e h0 he => by have := HCO.out ad e h0; have := hbase _ he.symm; omega))
        have HGC := hide9 (grownBy_new HGB.out hgrow (fun g e => .inl (hbase g e)))
        have HOC2 : Hid (Octets (zs ++ [x])) := by
          intro z hz
          rcases List.mem_append.1 hz with h | h
          · exact HOC.out z h
          · simp at h; subst h; exact ⟨x0, x1⟩
        have HL' : Hid ((zs ++ [x]).length = k + 1) := by show (zs ++ [x]).length = k + 1; simp; exact HL.out
        have HO3 := hide9 ho3
        clear hown hat hgrow hob HO2 HC2 HGB HOC HL HROW hx hxw hxm ho3 hbase
        generalize zs ++ [x] = zz at *
        go_wp2_with fail
        go_roundw
        case rel => exact ⟨k + 1, by omega, by go_num, ao', cap', zz, rfl, HL', HOC2, HO3, HC3, HGC⟩
        case measure => simp [intOf]; omega
      · have e : k = n := by omega
        subst e
        go_wp2_with fail
        go_ret
        exact ⟨⟨ao, cap, zs, rfl, HO.out, HOC.out, by have := HL.out; omega⟩, HCu.out, HG.out⟩
end Go.Proofs.YtbddkkfakkedaaaGreatDoor
namespace Go.Proofs.YtbddkkfakkedaaaGreatDoor
open Go.RowKit
attribute [local go_sem ↓] Go.wp_at_zero Go.wp_at_succ
set_option linter.unusedVariables false

theorem own_hundred (W : World) (B : Nat) (x : Int) (t : TypeId) (hB : B ≤ W.heap.size) : OwnsB t B (W.alloc (.cells #[.int .u8 x] t)) (some ⟨W.heap.size, 0, none⟩) 1 [x] :=
  World.ownsRow_lit W #[.int .u8 x] 1 hB (by unfold maxLen; omega) rfl
set_option maxRecDepth 100000 in
set_option maxHeartbeats 3200000 in
theorem l6Dict_any (p : Nat) (co : Option Addr) (cc : Nat) (cs : List Int) (w : World) (hc : Cur w p co cc cs) (hco : ∀ ad, co = some ad → 0 < cs.length → ad.block < w.heap.size) :
    Calls Tryz.prog 18 #[.pointer (some ⟨p, 0, none⟩)] w fun e w' => (∃ ao cap zs, e = .returned (.slice ao zs.length cap) ∧ OwnsB 5 w.heap.size w' ao cap zs ∧ Octets zs ∧ zs.length ≤ 16) ∧ Cur w' p co cc cs ∧ w.grownBy w' (some p) := by
  obtain ⟨i0, hi, hz0, hz1, hz2⟩ := info_parts Tryz.info_u8s
  have hp := hc.lt
  have HCO : Hid (∀ ad, co = some ad → 0 < cs.length → ad.block < w.heap.size) := hco
  have HC := hide9 hc
  clear hco hc
  go_enter Tryz.func18, Tryz.ntmps18
  go_wp2_with fail
  refine (l1Once_any p co cc cs 2 w HC.out (by decide) (by decide)).mono ?_
  rintro e w1 ⟨⟨b, rfl⟩, hc1, hg1⟩
  have hz : w.heap.size ≤ w1.heap.size := hg1.size
  have HC1 := hide9 hc1
  have HG1 := hide9 hg1
  clear hc1 hg1 HC
  cases b with
  | true =>
    have HC0 := hide9 (HC1.out.grown (World.grownBy_alloc w1 (.cells #[] 5) none) (by simp) (by simp))
    have HO0 : Hid (OwnsB 5 w.heap.size (w1.alloc (.cells #[] 5)) (some ⟨w1.heap.size, 0, none⟩) 0 []) := own1 w1 _ _ _ hz rfl
    have HG0 : Hid (w.grownBy (w1.alloc (.cells #[] 5)) (some p)) := grownBy_new HG1.out (World.grownBy_alloc w1 _ none) (fun g e => by cases e)
    go_wp2_with fail
    go_ret
    exact ⟨⟨_, 0, [], rfl, HO0.out, (fun z hz => by cases hz), by simp⟩, HC0.out, HG0.out⟩
  | false =>
    have ha : w1.grownBy (w1.alloc (.cells #[.int .u8 100] 5)) none := World.grownBy_alloc w1 _ _
    have za : (w1.alloc (.cells #[.int .u8 100] 5)).heap.size = w1.heap.size + 1 := by simp
    have HC2 := hide9 (HC1.out.grown ha (by simp) (by simp))
    have HO2 : Hid (OwnsB 5 w.heap.size (w1.alloc (.cells #[.int .u8 100] 5)) (some ⟨w1.heap.size, 0, none⟩) 1 [100]) := own_hundred w1 _ 100 _ hz
    have HG2 : Hid (w.grownBy (w1.alloc (.cells #[.int .u8 100] 5)) (some p)) := grownBy_new HG1.out ha (fun g e => by cases e)
    have hd0 : w1.heap.size ≠ p := by have := HC1.out.lt; omega
    have HL := hide9 (l1Data_any p co cc cs 16 (w1.alloc (.cells #[.int .u8 100] 5)) HC2.out (by decide) (by decide) (fun ad e h0 => by rw [za]; have := HCO.out ad e h0; omega))
    rw [za] at HL
    clear HC1 HG1 HC2 ha
    go_wp2_with fail
    refine HL.out.mono ?_
    rintro e w3 ⟨⟨aD, cD, zs, rfl, ho3, hoct, hlen⟩, hc3, hg3⟩
    have HMD := hide9 ho3.mine
    have HOC := hide9 hoct
    have HC3 := hide9 hc3
    have HO3 := hide9 (HO2.out.grown hg3 (fun k e e2 => by simp [blk] at e e2; omega))
    have HG3 := hide9 (grownBy_new HG2.out hg3 (fun g e => by simp at e; exact .inr e.symm))
    have HS3 : Hid (w.heap.size ≤ w3.heap.size) := HG3.out.size
    clear ho3 hoct hc3 hg3 HG2 HO2 HL
    go_wp2_with (at_builtin; refine wpList_append_row _ rfl _ _ 22 rfl w.heap.size 5 i0 (.int .u8 0) 1 Tryz.underlying22 hi hz0 hz1 hz2 rfl (.slice (some ⟨w1.heap.size, 0, none⟩) 1 1) 1 [.int .u8 100] rfl HO3.out aD cD zs rfl HMD.out.row HMD.out.nil_len (by unfold maxLen; omega) (by omega) HS3.out ?_)
    intro v' w4 hown hgrow hat
    have hle : 1 + zs.length = ([100] ++ zs : List Int).length := by simp; omega
    have hown2 : w4.ownsRow w.heap.size 5 1 v' ([100] ++ zs : List Int).length (([100] ++ zs : List Int).map (Value.int .u8)) := by rw [← hle]; exact hown
    obtain ⟨ao', cap', e', ho4⟩ := OwnsB.of hown2
    subst e'
    have HC4 := hide9 (HC3.out.grown hgrow (by simp [Value.ownBlock]; omega) (fun ad e h0 he => by have := HCO.out ad e h0; simp [Value.ownBlock] at he; omega))
    have HG4 := hide9 (grownBy_new HG3.out hgrow (fun g e => .inl (by simp [Value.ownBlock] at e; omega)))
    have HO4 := hide9 ho4
    have HX : Hid (Octets ([100] ++ zs)) := fun z hz => by
      rcases List.mem_append.1 hz with h | h
      · simp at h; subst h; omega
      · exact HOC.out z h
    have hl4 : ([100] ++ zs : List Int).length ≤ 16 := by rw [← hle]; omega
    clear hown hown2 hat hgrow ho4 HC3 HG3 HO3 HMD HOC hle
    generalize ([100] ++ zs : List Int) = zz at *
    go_wp2_with fail
    go_ret
    exact ⟨⟨ao', cap', zz, rfl, HO4.out, HX.out, hl4⟩, HC4.out, HG4.out⟩
set_option maxRecDepth 100000 in
set_option maxHeartbeats 3200000 in
theorem drawEZ_any (co : Option Addr) (cc : Nat) (cs : List Int) (w : World) (hr : Row w co cs) (ho : Octets cs) (hl : cs.length ≤ 1048576) :
    Calls Tryz.prog 5 #[.slice co cs.length cc] w fun e w' => ∃ ao cap zs info bo cb d, e = .returned (.tuple #[.slice ao zs.length cap, .int .i64 info, .slice bo d.length cb]) ∧ OwnsB 5 w.heap.size w' ao cap zs ∧ Octets zs ∧ zs.length < 30 ∧ OwnsB 5 w.heap.size w' bo cb d ∧ Octets d ∧ d.length ≤ 16 ∧ (-1 ≤ info ∧ info ≤ 8) ∧ Below w.heap.size w w' := by
  have hco := hr.lives
  go_enter Tryz.func5, Tryz.ntmps5
  go_wp2_with fail
  refine (l1New_any co cc cs w hr hl).mono ?_
  rintro e w1 ⟨p, rfl, ⟨h, hs⟩, rfl, hb1, hlt1⟩
  have hc1 : Cur w1 w.heap.size co cc cs := ⟨0, h, Nat.zero_le _, hs, hr.below hb1, ho, fun ad e h0 => by have := hco ad e h0; omega, hl⟩
  have HC1 := hide9 hc1
  have HB1 := hide9 hb1
  have HCO : Hid (∀ ad, co = some ad → 0 < cs.length → ad.block < w1.heap.size) := fun ad e h0 => by have := hco ad e h0; omega
  clear hs hc1 hb1 hco hr ho
  go_wp2_with fail
  refine (l1Data_any w.heap.size co cc cs 30 w1 HC1.out (by decide) (by decide) HCO.out).mono ?_
  rintro e w2 ⟨⟨ao, cap, zs, rfl, ho2, hoct, hlen⟩, hc2, hg2⟩
  have HO2 := hide9 ho2
  have HOC := hide9 hoct
  have HLN : Hid (zs.length < 30) := hlen
  have HC2 := hide9 hc2
  have HG2 := hide9 hg2
  have hfar : blk ao ≠ some w.heap.size := ho2.mine.far hlt1
  clear ho2 hoct hlen hc2 hg2 HC1
  go_wp2_with fail
  refine (l1Below_any w.heap.size co cc cs 8 w2 HC2.out (by decide) (by decide)).mono ?_
  rintro e w3 ⟨⟨x, rfl, x0, x1⟩, hc3, hg3⟩
  have HC3 := hide9 hc3
  have HO3 := hide9 (HO2.out.grown hg3 (by intro j e; simp at e; subst e; exact hfar))
  have HG3 := hide9 (grownBy_trans HG2.out hg3)
  clear hc3 hg3 HC2 HO2 HG2
  go_wp2_with fail
  refine (l1Once_any w.heap.size co cc cs 12 w3 HC3.out (by decide) (by decide)).mono ?_
  rintro e w4 ⟨⟨b, rfl⟩, hc4, hg4⟩
  have HC4 := hide9 hc4
  have HO4 := hide9 (HO3.out.grown hg4 (by intro j e; simp at e; subst e; exact hfar))
  have HG4 := hide9 (grownBy_trans HG3.out hg4)
  clear hc4 hg4 HC3 HO3 HG3
  have FIN : Hid (∀ W (hg : w1.grownBy W (some w.heap.size)) (hO : OwnsB 5 w1.heap.size W ao cap zs), OwnsB 5 w.heap.size W ao cap zs ∧ Below w.heap.size w W) := fun W hg hO => ⟨hO.mono (by omega), HB1.out.grown hg (by omega) (by intro k e; simp at e; omega)⟩
  have DIC : Hid (∀ W (hc : Cur W w.heap.size co cc cs) (hg : w1.grownBy W (some w.heap.size)) (hO : OwnsB 5 w1.heap.size W ao cap zs), Calls Tryz.prog 18 #[.pointer (some ⟨w.heap.size, 0, none⟩)] W fun e w' => ∃ bo cb d, e = .returned (.slice bo d.length cb) ∧ OwnsB 5 w.heap.size w' bo cb d ∧ Octets d ∧ d.length ≤ 16 ∧ OwnsB 5 w.heap.size w' ao cap zs ∧ Below w.heap.size w w') := fun W hc hg hO => by
    refine (l6Dict_any w.heap.size co cc cs W hc (fun ad e h0 => Nat.lt_of_lt_of_le (HCO.out ad e h0) hg.size)).mono ?_
    rintro e w' ⟨⟨bo, cb, d, rfl, hod, hdo, hdl⟩, _, hg'⟩
    have h1 := FIN.out w' (grownBy_trans hg hg') (hO.grown hg' (by intro j e; simp at e; subst e; exact hfar))
    have hsz : w1.heap.size ≤ W.heap.size := hg.size
    exact ⟨bo, cb, d, rfl, hod.mono (by omega), hdo, hdl, h1.1, h1.2⟩
  cases b with
  | true =>
    go_wp2_with fail
    refine (l1Below_any w.heap.size co cc cs 2 w4 HC4.out (by decide) (by decide)).mono ?_
    rintro e w5 ⟨⟨z, rfl, zz0, zz1⟩, hc5, hg5⟩
    have DI := hide9 (DIC.out w5 hc5 (grownBy_trans HG4.out hg5) (HO4.out.grown hg5 (by intro j e; simp at e; subst e; exact hfar)))
    clear hc5 hg5 HC4 HO4 HG4 FIN DIC
    obtain ⟨y, hy⟩ : ∃ y : Int, 9 * z - 1 = y := ⟨_, rfl⟩
    have hy1 : -1 ≤ y ∧ y ≤ 8 := by omega
    go_wp2_with fail
    refine DI.out.mono ?_
    rintro e w6 ⟨bo, cb, d, rfl, hod, hdo, hdl, hoz, hbl⟩
    have D1 := hide9 hod
    have D2 := hide9 hdo
    have D3 : Hid (d.length ≤ 16) := hdl
    have D4 := hide9 hoz
    have D5 := hide9 hbl
    clear hod hdo hdl hoz hbl DI
    go_wp2_with fail
    exact bodyPost_ret (v := .tuple #[.slice ao zs.length cap, .int .i64 y, .slice bo d.length cb]) (by simp [results, Tryz.results5, go_sem]) rfl ⟨ao, cap, zs, _, bo, cb, d, rfl, D4.out, HOC.out, HLN.out, D1.out, D2.out, D3.out, ⟨by omega, by omega⟩, D5.out⟩
  | false =>
    have DI := hide9 (DIC.out w4 HC4.out HG4.out HO4.out)
    clear HC4 HO4 HG4 FIN DIC
    go_wp2_with fail
    refine DI.out.mono ?_
    rintro e w6 ⟨bo, cb, d, rfl, hod, hdo, hdl, hoz, hbl⟩
    have D1 := hide9 hod
    have D2 := hide9 hdo
    have D3 : Hid (d.length ≤ 16) := hdl
    have D4 := hide9 hoz
    have D5 := hide9 hbl
    clear hod hdo hdl hoz hbl DI
    go_wp2_with fail
    exact bodyPost_ret (v := .tuple #[.slice ao zs.length cap, .int .i64 x, .slice bo d.length cb]) (by simp [results, Tryz.results5, go_sem]) rfl ⟨ao, cap, zs, _, bo, cb, d, rfl, D4.out, HOC.out, HLN.out, D1.out, D2.out, D3.out, ⟨by omega, by omega⟩, D5.out⟩
end Go.Proofs.YtbddkkfakkedaaaGreatDoor
