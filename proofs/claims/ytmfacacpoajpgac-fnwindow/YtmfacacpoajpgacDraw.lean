import Derived.Test.YtmfacacpoajpgacProg
import Derived.Test.YtmfacacpoajpgacSrc
import Derived.Laws.BitsAllLaws
namespace Go.Proofs.Ytmfacacpoajpgac
open Go.RowKit
attribute [local go_sem ↓] Go.wp_at_zero Go.wp_at_succ

theorem i64_and255 (n : Int) : bits .and .i64 n 255 = n % 256 := by
  have h1 : (BitVec.ofInt 64 255).toNat = 2 ^ 8 - 1 := by decide
  have key : (BitVec.ofInt 64 n &&& BitVec.ofInt 64 255).toNat = (n % ((2 ^ 64 : Nat) : Int)).toNat % 2 ^ 8 := by
    rw [BitVec.toNat_and, BitVec.toNat_ofInt, h1, Nat.and_two_pow_sub_one_eq_mod]
  show IntKind.i64.wrap ((BitVec.ofInt 64 n &&& BitVec.ofInt 64 255).toNat : Nat) = n % 256
  rw [key, IntKind.wrap_i64]
  omega

theorem src_set1 {w : World} {p : Nat} {v : Value} {a u : Int} (h : Src w p v a u) (a' : Int) :
    Src (w.setCell ⟨p, 1, none⟩ (.int .i64 a')) p v a' u ∧ w.grownBy (w.setCell ⟨p, 1, none⟩ (.int .i64 a')) (some p) := by
  obtain ⟨c0, c1, c2, f0, f1, f2⟩ := h
  refine ⟨⟨?_, ?_, ?_, ?_, ?_, ?_⟩, grownBy_setCell w ⟨p, 1, none⟩ _⟩
  · rw [World.cell?_setCell_other _ _ _ _ (by simp)]; exact c0
  · exact World.cell?_setCell_same _ _ _ c1
  · rw [World.cell?_setCell_other _ _ _ _ (by simp)]; exact c2
  · simp [World.frozen?_setCell, f0]
  · simp [World.frozen?_setCell, f1]
  · simp [World.frozen?_setCell, f2]
theorem src_set2 {w : World} {p : Nat} {v : Value} {a u : Int} (h : Src w p v a u) (u' : Int) :
    Src (w.setCell ⟨p, 2, none⟩ (.int .i64 u')) p v a u' ∧ w.grownBy (w.setCell ⟨p, 2, none⟩ (.int .i64 u')) (some p) := by
  obtain ⟨c0, c1, c2, f0, f1, f2⟩ := h
  refine ⟨⟨?_, ?_, ?_, ?_, ?_, ?_⟩, grownBy_setCell w ⟨p, 2, none⟩ _⟩
  · rw [World.cell?_setCell_other _ _ _ _ (by simp)]; exact c0
  · rw [World.cell?_setCell_other _ _ _ _ (by simp)]; exact c1
  · exact World.cell?_setCell_same _ _ _ c2
  · simp [World.frozen?_setCell, f0]
  · simp [World.frozen?_setCell, f1]
  · simp [World.frozen?_setCell, f2]

theorem grownBy_same {a b b' : World} {r : Option Nat} (h : a.grownBy b r) (e1 : b'.os = b.os) (e2 : b'.tape = b.tape) (e3 : b'.output = b.output) (e4 : b'.heap = b.heap) : a.grownBy b' r :=
  ⟨e1.trans h.os, e2.trans h.tape, e3.trans h.output, by rw [e4]; exact h.size, fun k hk hne => by rw [e4]; exact h.block k hk hne⟩

theorem Row.grown0 {w w' : World} {row : Option Nat} {ao : Option Addr} {zs : List Int} (h : Row w ao zs) (hg : w.grownBy w' row) (hne : ∀ ad, ao = some ad → 0 < zs.length → some ad.block ≠ row) : Row w' ao zs := by
  intro i hi
  obtain ⟨b, off, rfl, hc⟩ := h i hi
  exact ⟨b, off, rfl, hg.cell hc (hne ⟨b, off, none⟩ rfl (by omega))⟩
theorem Row.lives {w : World} {ao : Option Addr} {zs : List Int} (h : Row w ao zs) : ∀ ad, ao = some ad → 0 < zs.length → ad.block < w.heap.size := by
  intro ad e h0
  obtain ⟨b, off, rfl, hc⟩ := h 0 h0
  simp only [Option.some.injEq] at e
  subst e
  exact World.block_lt_of_cell? w _ hc

/-- A cursor: its block, the code's row, how far it is. -/
def Cur (w : World) (p : Nat) (co : Option Addr) (cc : Nat) (cs : List Int) : Prop :=
  ∃ i : Nat, ∃ h : Int, i ≤ cs.length ∧ Src w p (.slice co cs.length cc) i h ∧ Row w co cs ∧ Octets cs ∧ (∀ ad, co = some ad → 0 < cs.length → ad.block ≠ p) ∧ cs.length ≤ 1048576

theorem Cur.grown {w w' : World} {p : Nat} {co : Option Addr} {cc : Nat} {cs : List Int} {row : Option Nat} (h : Cur w p co cc cs) (hg : w.grownBy w' row) (hp : some p ≠ row) (hc : ∀ ad, co = some ad → 0 < cs.length → some ad.block ≠ row) : Cur w' p co cc cs := by
  obtain ⟨i, x, h1, h2, h3, h4, h5, h6⟩ := h
  exact ⟨i, x, h1, h2.grown hg hp, h3.grown0 hg hc, h4, h5, h6⟩
theorem Cur.lt {w : World} {p : Nat} {co : Option Addr} {cc : Nat} {cs : List Int} (h : Cur w p co cc cs) : p < w.heap.size := by
  obtain ⟨i, x, h1, h2, _⟩ := h
  exact World.block_lt_of_cell? w _ h2.1

set_option maxHeartbeats 3200000 in
/-- spec.l1Byte: some byte. -/
theorem l1Byte_any (p : Nat) (co : Option Addr) (cc : Nat) (cs : List Int) (w : World) (hc : Cur w p co cc cs) :
    Calls Try.prog 70 #[.pointer (some ⟨p, 0, none⟩)] w fun e w' => (∃ x : Int, e = .returned (.int .i64 x) ∧ 0 ≤ x ∧ x ≤ 255) ∧ Cur w' p co cc cs ∧ w.grownBy w' (some p) := by
  obtain ⟨i, h, hi, hs, hr, ho, hne, hl⟩ := hc
  have hs' := hs
  obtain ⟨c0, c1, c2, f0, f1, f2⟩ := hs'
  obtain ⟨k1, k2⟩ := src_set2 hs (wrap64 (wrap64 (h * 6364136223846793005) + 1442695040888963407))
  have hr1 := hr.grown0 k2 (fun ad e h0 he => hne ad e h0 (by simpa using he))
  have hr2 : ∀ q, Row ((w.setCell ⟨p, 2, none⟩ (.int .i64 (wrap64 (wrap64 (h * 6364136223846793005) + 1442695040888963407)))).drewN q) co cs := fun q => hr1
  by_cases hlt : i < cs.length
  · have hd : decide ((i : Int) < (cs.length : Int)) = true := decide_eq_true (by omega)
    have hi0 : (0 : Int) ≤ (i : Int) := by omega
    have hi1 : (i : Int) < (cs.length : Int) := by omega
    obtain ⟨b, off, rfl, hcell⟩ := hr.at hlt
    have hck := hcell i hlt
    have hbp : b ≠ p := hne ⟨b, off, none⟩ rfl (by omega)
    obtain ⟨m1, m2⟩ := src_set1 k1 ((i : Int) + 1)
    have hr3 := hr1.grown0 m2 (fun ad e h0 he => hne ad e h0 (by simpa using he))
    have hxb := ho.getD i
    clear hs hcell hr2 hr1 hr
    generalize cs.getD i 0 = x at *
    go_enter Try.func70, Try.ntmps70
    go_wp2_with fail
    go_quiet (fail)
    go_wp2_with fail
    go_quiet (fail)
    go_wp2_with fail
    go_quiet (fail)
    go_wp2_with fail
    go_ret
    refine ⟨⟨_, rfl, ?_⟩, ?_, ?_⟩
    · show 0 ≤ bits .and .i64 _ 255 ∧ bits .and .i64 _ 255 ≤ 255
      rw [i64_and255]
      omega
    · exact ⟨i + 1, _, by omega, by rw [Int.natCast_add]; exact m1, hr3, ho, hne, hl⟩
    · exact grownBy_same (grownBy_trans k2 m2) rfl rfl rfl rfl
  · have hd : decide ((i : Int) < (cs.length : Int)) = false := decide_eq_false (by omega)
    clear hs hr
    go_enter Try.func70, Try.ntmps70
    go_wp2_with fail
    go_quiet (fail)
    go_wp2_with fail
    go_quiet (fail)
    go_wp2_with fail
    go_ret
    refine ⟨⟨_, rfl, ?_⟩, ?_, ?_⟩
    · show 0 ≤ bits .and .i64 _ 255 ∧ bits .and .i64 _ 255 ≤ 255
      rw [i64_and255]
      omega
    · exact ⟨i, _, by omega, k1, hr2 0, ho, hne, hl⟩
    · exact grownBy_same k2 rfl rfl rfl rfl

set_option maxHeartbeats 1600000 in
/-- spec.l1Below: a number below n. -/
theorem l1Below_any (p : Nat) (co : Option Addr) (cc : Nat) (cs : List Int) (n : Int) (w : World) (hc : Cur w p co cc cs) (n0 : 1 ≤ n) (n1 : n ≤ 1000000) :
    Calls Try.prog 61 #[.pointer (some ⟨p, 0, none⟩), .int .i64 n] w fun e w' => (∃ x : Int, e = .returned (.int .i64 x) ∧ 0 ≤ x ∧ x < n) ∧ Cur w' p co cc cs ∧ w.grownBy w' (some p) := by
  by_cases h : n ≤ 256
  · go_enter Try.func61, Try.ntmps61
    go_wp2_with fail
    refine (l1Byte_any p co cc cs w hc).mono ?_
    rintro e w1 ⟨⟨x, rfl, x0, x1⟩, hc1, hg1⟩
    have hne : (n == 0) = false := by simp; omega
    go_wp2_with fail
    go_ret
    exact ⟨⟨_, rfl, Int.emod_nonneg _ (by omega), Int.emod_lt_of_pos _ (by omega)⟩, hc1, hg1⟩
  · go_enter Try.func61, Try.ntmps61
    go_wp2_with fail
    refine (l1Byte_any p co cc cs w hc).mono ?_
    rintro e w1 ⟨⟨x, rfl, x0, x1⟩, hc1, hg1⟩
    go_wp2_with fail
    refine (l1Byte_any p co cc cs w1 hc1).mono ?_
    rintro e w2 ⟨⟨y, rfl, y0, y1⟩, hc2, hg2⟩
    go_wp2_with fail
    refine (l1Byte_any p co cc cs w2 hc2).mono ?_
    rintro e w3 ⟨⟨z, rfl, z0, z1⟩, hc3, hg3⟩
    have hne : (n == 0) = false := by simp; omega
    go_wp2_with fail
    go_ret
    exact ⟨⟨_, rfl, Int.emod_nonneg _ (by omega), Int.emod_lt_of_pos _ (by omega)⟩, hc3, grownBy_trans (grownBy_trans hg1 hg2) hg3⟩

theorem own1 (W : World) (base e g : Nat) (hb : base ≤ W.heap.size) (hg : W.heap.size = g) : (W.alloc (.cells #[] e)).ownsRow base e 1 (.slice (some ⟨g, 0, none⟩) 0 0) 0 [] := by
  subst hg
  exact World.ownsRow_lit W #[] 0 hb (by unfold maxLen; omega) rfl

/-- One byte more onto the call's own row. -/
theorem row_one (w : World) (x : Int) (t : TypeId) : Row (w.alloc (.cells #[.int .u8 x] t)) (some ⟨w.heap.size, 0, none⟩) [x] := by
  refine Row.of fun i hi => ?_
  simp at hi
  subst hi
  simp [go_sem]

theorem grownBy_new {a b c : World} {p : Nat} {r : Option Nat} (h : a.grownBy b (some p)) (k : b.grownBy c r) (hr : ∀ g, r = some g → a.heap.size ≤ g ∨ g = p) : a.grownBy c (some p) := by
  refine ⟨k.os.trans h.os, k.tape.trans h.tape, k.output.trans h.output, Nat.le_trans h.size k.size, fun j hj hne => ?_⟩
  rw [k.block j (Nat.lt_of_lt_of_le hj h.size) ?_, h.block j hj hne]
  intro e
  rcases hr j e.symm with h1 | h1
  · omega
  · exact hne (by rw [h1])

set_option maxRecDepth 100000 in
set_option maxHeartbeats 3200000 in
/-- spec.l1Some: n bytes of the call's own. -/
theorem l1Some_any (p : Nat) (co : Option Addr) (cc : Nat) (cs : List Int) (n : Nat) (w : World) (hc : Cur w p co cc cs) (hn : n ≤ 1000) (hco : ∀ ad, co = some ad → 0 < cs.length → ad.block < w.heap.size) :
    Calls Try.prog 63 #[.pointer (some ⟨p, 0, none⟩), .int .i64 n] w fun e w' => (∃ ao cap zs, e = .returned (.slice ao zs.length cap) ∧ OwnsB 5 w.heap.size w' ao cap zs ∧ Octets zs ∧ zs.length = n) ∧ Cur w' p co cc cs ∧ w.grownBy w' (some p) := by
  obtain ⟨i0, hi, hz0, hz1, hz2⟩ := info_parts Try.info_u8s
  have hp := hc.lt
  have HCO : Hid (∀ ad, co = some ad → 0 < cs.length → ad.block < w.heap.size) := hco
  clear hco
  have hc0 := hc.grown (World.grownBy_alloc w (.cells #[] 5) none) (by simp) (by simp)
  have ho0 : OwnsB 5 w.heap.size (w.alloc (.cells #[] 5)) (some ⟨w.heap.size, 0, none⟩) 0 [] := own1 w _ _ _ (Nat.le_refl _) rfl
  have hg0 : w.grownBy (w.alloc (.cells #[] 5)) (some p) := World.grownBy_alloc w _ _
  go_enter Try.func63, Try.ntmps63
  go_wp2_with fail
  go_loopw [5, 6] (fun v i wr => ∃ k : Nat, k ≤ n ∧ i = .int .i64 k ∧ ∃ ao cap zs, v = .slice ao zs.length cap ∧ Hid (zs.length = k) ∧ Octets zs ∧ OwnsB 5 w.heap.size wr ao cap zs ∧ Cur wr p co cc cs ∧ w.grownBy wr (some p)) (fun _ i _ => n - (intOf i).toNat)
  case atStart => exact ⟨0, Nat.zero_le _, rfl, _, 0, [], rfl, rfl, (fun z hz => by cases hz), ho0, hc0, hg0⟩
  case round =>
    clear hc hc0 ho0 hg0
    obtain ⟨k, hk, rfl, ao, cap, zs, rfl, HL, hoct, ho, hc, hg⟩ := hrel
    by_cases hlt : k < n
    · go_wp2_with fail
      refine (l1Byte_any p co cc cs wr hc).mono ?_
      rintro e w1 ⟨⟨x, rfl, x0, x1⟩, hc1, hg1⟩
      have hfar : blk ao ≠ some p := ho.mine.far hp
      have ho1 := ho.grown hg1 (by intro j e; simp at e; subst e; exact hfar)
      have hgA := grownBy_new hg hg1 (by intro g e; simp at e; exact .inr e.symm)
      have hal : w1.grownBy (w1.alloc (.cells #[.int .u8 x] 5)) none := World.grownBy_alloc w1 _ _
      have ho2 := ho1.grown hal (by intro j e; cases e)
      have hc2 := hc1.grown hal (by simp) (by simp)
      have hgB := grownBy_new hgA hal (by intro g e; cases e)
      have hx : x % 256 = x := by omega
      have hsz : zs.length ≤ 1000 := by have := HL.out; omega
      have hrow := row_one w1 x 5
      clear ho hc ho1 hc1 hg1 hg hgA hal
      go_wp2_with (at_builtin; refine wpList_append_row _ rfl _ _ 37 rfl w.heap.size 5 i0 (.int .u8 0) 1 Try.underlying37 hi hz0 hz1 hz2 rfl (.slice ao zs.length cap) zs.length (zs.map (Value.int .u8)) rfl ho2 (some ⟨w1.heap.size, 0, none⟩) 1 [x] rfl hrow (fun e => by cases e) (by unfold maxLen; simp; omega) (by simp; omega) (by have := hgB.size; omega) ?_)
      intro v' w2 hown hgrow hat
      rw [show zs.map (Value.int .u8) ++ [Value.int .u8 x] = (zs ++ [x]).map (Value.int .u8) from by simp] at hown
      obtain ⟨ao', cap', e', ho3⟩ := OwnsB.of hown
      subst e'
      have hob : (Value.slice ao zs.length cap).ownBlock = blk ao := by cases ao <;> rfl
      rw [hob] at hgrow
      have hbase : ∀ g, blk ao = some g → w.heap.size ≤ g := by
        intro g e
        rcases Nat.lt_or_ge g w.heap.size with h | h
        · exact absurd e (ho2.mine.far h)
        · exact h
      have hc3 := hc2.grown hgrow (fun e => hfar e.symm) (fun ad e h0 he => by have := HCO.out ad e h0; have := hbase _ he.symm; omega)
      have hgC := grownBy_new hgB hgrow (fun g e => .inl (hbase g e))
      have hoct' : Octets (zs ++ [x]) := by
        intro z hz
        rcases List.mem_append.1 hz with h | h
        · exact hoct z h
        · simp at h; subst h; exact ⟨x0, x1⟩
      have HL' : Hid ((zs ++ [x]).length = k + 1) := by show (zs ++ [x]).length = k + 1; simp; exact HL.out
      clear hown hat hgrow hob ho2 hc2 hgB hoct HL hrow hx
      generalize zs ++ [x] = zz at *
      go_wp2_with fail
      go_roundw
      case rel => exact ⟨k + 1, by omega, by go_num, ao', cap', zz, rfl, HL', hoct', ho3, hc3, hgC⟩
      case measure => simp [intOf]; omega
    · have e : k = n := by omega
      subst e
      go_wp2_with fail
      go_ret
      exact ⟨⟨ao, cap, zs, rfl, ho, hoct, HL.out⟩, hc, hg⟩

set_option maxHeartbeats 1600000 in
/-- spec.l1New: a cursor at the head. -/
theorem l1New_any (co : Option Addr) (cc : Nat) (cs : List Int) (w : World) (hr : Row w co cs) (hl : cs.length ≤ 1048576) :
    Calls Try.prog 48 #[.slice co cs.length cc] w fun e w' => ∃ p, e = .returned (.pointer (some ⟨p, 0, none⟩)) ∧ (∃ h, Src w' p (.slice co cs.length cc) 0 h) ∧ p = w.heap.size ∧ Below w.heap.size w w' ∧ p < w'.heap.size := by
  go_enter Try.func48, Try.ntmps48
  go_wp2_with fail
  go_loop [3, 4] (fun h i => ∃ k : Nat, ∃ x : Int, k ≤ cs.length ∧ i = .int .i64 k ∧ h = .int .i64 x) (fun _ i => cs.length - (intOf i).toNat)
  case atStart => exact ⟨0, _, Nat.zero_le _, rfl, rfl⟩
  case round =>
    obtain ⟨k, x, hk, rfl, rfl⟩ := hrel
    by_cases hlt : k < cs.length
    · obtain ⟨b, off, rfl, hc⟩ := hr.at hlt
      have hck := hc k hlt
      clear hc hr
      generalize cs.getD k 0 = y at *
      go_wp2_with fail
      go_round
      case rel => exact ⟨k + 1, _, by omega, by go_num, rfl⟩
      case measure => simp [intOf]; omega
    · clear hr
      go_wp2_with fail
      go_ret
      exact ⟨_, rfl, ⟨_, src_new w _ 0 x _⟩, rfl, (Below.refl _ _).alloc (Nat.le_refl _) _, by simp⟩

/-- spec.l1Once. -/
theorem l1Once_any (p : Nat) (co : Option Addr) (cc : Nat) (cs : List Int) (n : Int) (w : World) (hc : Cur w p co cc cs) (n0 : 1 ≤ n) (n1 : n ≤ 1000000) :
    Calls Try.prog 62 #[.pointer (some ⟨p, 0, none⟩), .int .i64 n] w fun e w' => (∃ b : Bool, e = .returned (.bool b)) ∧ Cur w' p co cc cs ∧ w.grownBy w' (some p) := by
  go_enter Try.func62, Try.ntmps62
  go_wp2_with fail
  refine (l1Below_any p co cc cs n w hc n0 n1).mono ?_
  rintro e w1 ⟨⟨k, rfl, k0, k1⟩, hc1, hg1⟩
  go_wp2_with fail
  go_ret
  exact ⟨⟨_, rfl⟩, hc1, hg1⟩

end Go.Proofs.Ytmfacacpoajpgac
