import Derived.Test.YtbddkkfakkedaaaGreatDoorMBU
import Derived.Test.YtbddkkfakkedaaaGreatDoorMBW
namespace Go.Proofs.YtbddkkfakkedaaaGreatDoor
open Go.RowKit
set_option linter.unusedVariables false

/-- Where a zlib frame stands: 0 before the head, 1 before the dictionary's sum, 2 inflating or before the sum, 3 behind the end. -/
structure ZC where
  ph : Nat
  sz : Nat
  ic : IC
  bad : Bool
/-- Where inflating may begin: window, bit, what the window holds. -/
def ZStart (zs d : List Int) (s i : Nat) (t : List Int) : Prop :=
  16 ≤ 8 * zs.length ∧ zbad (field (bnum zs) 0 16) = false ∧ s = zsz (field (bnum zs) 0 16) ∧ ((zdic (field (bnum zs) 0 16) = false ∧ i = 16 ∧ t = lastN s []) ∨ (zdic (field (bnum zs) 0 16) = true ∧ i = 48 ∧ t = lastN s d ∧ 48 ≤ 8 * zs.length ∧ d ≠ [] ∧ ((rb4 (field (bnum zs) 16 32) : Nat) : Int) = Adl.adl d))
def ZReach (zs d : List Int) (s : Nat) (c : IC) : Prop := ∃ i t n, ZStart zs d s i t ∧ RTo s zs n (icA i t) c
/-- One step of a zlib frame. -/
def zstep0 (zs d : List Int) (c : ZC) : ZC ⊕ (Int × ZC) :=
  if c.ph = 0 then
    if c.ic.lc.i + 16 ≤ 8 * zs.length then
      if zbad (field (bnum zs) c.ic.lc.i 16) = true then .inr (3, ⟨0, 0, icTo c.ic (c.ic.lc.i + 16), true⟩)
      else if zdic (field (bnum zs) c.ic.lc.i 16) = true then .inl ⟨1, zsz (field (bnum zs) c.ic.lc.i 16), icA (c.ic.lc.i + 16) [], false⟩
      else .inl ⟨2, zsz (field (bnum zs) c.ic.lc.i 16), icA (c.ic.lc.i + 16) (lastN (zsz (field (bnum zs) c.ic.lc.i 16)) []), false⟩
    else .inr (2, c)
  else if c.ph = 1 then
    if c.ic.lc.i + 32 ≤ 8 * zs.length then
      if d = [] ∨ ((rb4 (field (bnum zs) c.ic.lc.i 32) : Nat) : Int) ≠ Adl.adl d then .inr (5, ⟨1, c.sz, icTo c.ic (c.ic.lc.i + 32), true⟩)
      else .inl ⟨2, c.sz, icA (c.ic.lc.i + 32) (lastN c.sz d), false⟩
    else .inr (2, c)
  else if c.ph = 2 then
    if c.ic.st ≤ 15 then
      match istep0 c.sz zs c.ic with
      | .inl i' => .inl ⟨2, c.sz, i', false⟩
      | .inr (k, i') => .inr (k, if k = 2 then c else ⟨2, c.sz, i', true⟩)
    else if (c.ic.lc.i + 7) / 8 * 8 + 32 ≤ 8 * zs.length then
      if ((rb4 (field (bnum zs) ((c.ic.lc.i + 7) / 8 * 8) 32) : Nat) : Int) = Adl.adl c.ic.out then .inl ⟨3, c.sz, icTo c.ic ((c.ic.lc.i + 7) / 8 * 8 + 32), false⟩
      else .inr (4, ⟨2, c.sz, icTo c.ic ((c.ic.lc.i + 7) / 8 * 8 + 32), true⟩)
    else .inr (2, ⟨2, c.sz, icTo c.ic ((c.ic.lc.i + 7) / 8 * 8), true⟩)
  else .inr (0, c)
def zmu (zs : List Int) (c : ZC) : Nat := if c.ph = 0 then 128 * zs.length + 102 else if c.ph = 1 then 128 * zs.length + 101 else if c.ph = 2 then imu zs c.ic + 1 else 0
/-- The same, where each step comes nearer to the end. -/
def zstep (zs d : List Int) (c : ZC) : ZC ⊕ (Int × ZC) := match zstep0 zs d c with | .inl c' => if zmu zs c' < zmu zs c then .inl c' else .inr (0, c) | .inr x => .inr x
def znow (z q : Nat) (c : ZC) : Option (Nat × Array Value) :=
  if c.bad = true then none else if c.ph = 0 then some (51, #[.pointer (some ⟨z, 0, none⟩)]) else if c.ph = 1 then some (86, #[.pointer (some ⟨z, 0, none⟩)])
  else if c.ph = 2 then if c.ic.st ≤ 15 then some (ifn c.ic.st, #[.pointer (some ⟨q, 0, none⟩)]) else some (52, #[.pointer (some ⟨z, 0, none⟩)])
  else none
/-- What the numbers keep to. -/
structure ZOK (zs d : List Int) (c : ZC) : Prop where
  p3 : c.ph ≤ 3
  p0 : c.bad = false → c.ph = 0 → c.ic.lc.i = 0
  p1 : c.bad = false → c.ph = 1 → 16 ≤ 8 * zs.length ∧ c.ic.lc.i = 16 ∧ c.sz = zsz (field (bnum zs) 0 16) ∧ zbad (field (bnum zs) 0 16) = false ∧ zdic (field (bnum zs) 0 16) = true
  p2 : c.bad = false → c.ph = 2 → IWell zs c.ic ∧ ZReach zs d c.sz c.ic
theorem icA_well (zs t : List Int) (i : Nat) (hi : i ≤ 8 * zs.length) : IWell zs (icA i t) := by
  refine ⟨by show (7 : Nat) ≤ 16; omega, hi, Nat.zero_le _, fun h => ?_, fun _ => rfl, fun h => ?_, fun h => ?_, fun h => ?_, fun h _ => ?_, fun h => ?_, fun h => ?_, fun h => ?_⟩
  · have : (7 : Nat) ≤ 6 := h; omega
  · have : (7 : Nat) = 6 := h; omega
  · have : (7 : Nat) = 9 ∨ (7 : Nat) = 10 := h; omega
  · have : (7 : Nat) = 10 := h; omega
  · have : (12 : Nat) ≤ 7 := h; omega
  · have : (7 : Nat) = 13 := h; omega
  · have : (7 : Nat) = 14 ∨ (7 : Nat) = 15 := h; omega
  · have : (7 : Nat) = 15 := h; omega
theorem imu_le (zs : List Int) (c : IC) : imu zs c ≤ 128 * zs.length + 8 := by
  have := irk_le c.st
  unfold imu
  omega
/-- A step of a frame whose numbers are well is a step, and its numbers stay well. -/
theorem zstep_ok {zs d : List Int} {c c' : ZC} (hzl : zs.length ≤ 65536) (h : ZOK zs d c) (hb : c.bad = false) (hs : zstep0 zs d c = .inl c') : ZOK zs d c' ∧ zmu zs c' < zmu zs c := by
  unfold zstep0 at hs
  by_cases h0 : c.ph = 0
  · have hp0 := h.p0 hb h0
    rw [if_pos h0, hp0] at hs
    split at hs
    · rename_i hn
      split at hs
      · cases hs
      · rename_i hbd
        have hbd' : zbad (field (bnum zs) 0 16) = false := by simpa using hbd
        split at hs
        · rename_i hdc
          injection hs with hs
          subst hs
          refine ⟨⟨by show (1 : Nat) ≤ 3; omega, fun _ e => ?_, fun _ _ => ⟨by omega, rfl, rfl, hbd', hdc⟩, fun _ e => ?_⟩, ?_⟩
          · have : (1 : Nat) = 0 := e; omega
          · have : (1 : Nat) = 2 := e; omega
          · unfold zmu
            rw [if_pos h0, if_neg (by show ¬ (1 : Nat) = 0; omega), if_pos rfl]
            omega
        · rename_i hdc
          have hdc' : zdic (field (bnum zs) 0 16) = false := by simpa using hdc
          injection hs with hs
          subst hs
          refine ⟨⟨by show (2 : Nat) ≤ 3; omega, fun _ e => ?_, fun _ e => ?_, fun _ _ => ⟨icA_well zs _ _ hn, _, _, 0, ⟨by omega, hbd', rfl, .inl ⟨hdc', rfl, rfl⟩⟩, rfl⟩⟩, ?_⟩
          · have : (2 : Nat) = 0 := e; omega
          · have : (2 : Nat) = 1 := e; omega
          · unfold zmu
            rw [if_pos h0, if_neg (by show ¬ (2 : Nat) = 0; omega), if_neg (by show ¬ (2 : Nat) = 1; omega), if_pos rfl]
            have := imu_le zs (icA (0 + 16) (lastN (zsz (field (bnum zs) 0 16)) []))
            show imu zs (icA (0 + 16) (lastN (zsz (field (bnum zs) 0 16)) [])) + 1 < _
            omega
    · cases hs
  rw [if_neg h0] at hs
  by_cases h1 : c.ph = 1
  · obtain ⟨e0, e1, e2, e3, e4⟩ := h.p1 hb h1
    rw [if_pos h1, e1] at hs
    split at hs
    · rename_i hn
      split at hs
      · cases hs
      · rename_i hdd
        rw [not_or] at hdd
        obtain ⟨hd1, hd2⟩ := hdd
        have hd2' : ((rb4 (field (bnum zs) 16 32) : Nat) : Int) = Adl.adl d := by simpa using hd2
        injection hs with hs
        subst hs
        refine ⟨⟨by show (2 : Nat) ≤ 3; omega, fun _ e => ?_, fun _ e => ?_, fun _ _ => ⟨icA_well zs _ _ hn, _, _, 0, ⟨e0, e3, e2, .inr ⟨e4, rfl, rfl, hn, hd1, hd2'⟩⟩, rfl⟩⟩, ?_⟩
        · have : (2 : Nat) = 0 := e; omega
        · have : (2 : Nat) = 1 := e; omega
        · unfold zmu
          rw [if_neg h0, if_pos h1, if_neg (by show ¬ (2 : Nat) = 0; omega), if_neg (by show ¬ (2 : Nat) = 1; omega), if_pos rfl]
          have := imu_le zs (icA (16 + 32) (lastN c.sz d))
          show imu zs (icA (16 + 32) (lastN c.sz d)) + 1 < _
          omega
    · cases hs
  rw [if_neg h1] at hs
  by_cases h2 : c.ph = 2
  · obtain ⟨hW, i, t, n, hS, hT⟩ := h.p2 hb h2
    rw [if_pos h2] at hs
    split at hs
    · rename_i h15
      split at hs
      · rename_i i' hi
        injection hs with hs
        subst hs
        have hok := istep0_ok hW h15 hzl hi
        refine ⟨⟨by show (2 : Nat) ≤ 3; omega, fun _ e => ?_, fun _ e => ?_, fun _ _ => ⟨hok.1, i, t, n + 1, hS, hT.join (.step h15 hi rfl)⟩⟩, ?_⟩
        · have : (2 : Nat) = 0 := e; omega
        · have : (2 : Nat) = 1 := e; omega
        · unfold zmu
          rw [if_neg h0, if_neg h1, if_pos h2, if_neg (by show ¬ (2 : Nat) = 0; omega), if_neg (by show ¬ (2 : Nat) = 1; omega), if_pos rfl]
          exact Nat.succ_lt_succ hok.2
      · cases hs
    · split at hs
      · split at hs
        · injection hs with hs
          subst hs
          refine ⟨⟨Nat.le_refl _, fun _ e => ?_, fun _ e => ?_, fun _ e => ?_⟩, ?_⟩
          · have : (3 : Nat) = 0 := e; omega
          · have : (3 : Nat) = 1 := e; omega
          · have : (3 : Nat) = 2 := e; omega
          · unfold zmu
            rw [if_neg h0, if_neg h1, if_pos h2, if_neg (by show ¬ (3 : Nat) = 0; omega), if_neg (by show ¬ (3 : Nat) = 1; omega), if_neg (by show ¬ (3 : Nat) = 2; omega)]
            exact Nat.succ_pos _
        · cases hs
      · cases hs
  · rw [if_neg h2] at hs
    cases hs
theorem zstep_inl {zs d : List Int} {c c' : ZC} (hs : zstep zs d c = .inl c') : zstep0 zs d c = .inl c' ∧ zmu zs c' < zmu zs c := by
  unfold zstep at hs
  split at hs
  · rename_i c2 h2
    split at hs
    · rename_i h3
      injection hs with hs
      subst hs
      exact ⟨h2, h3⟩
    · cases hs
  · cases hs
theorem zstep_inr {zs d : List Int} {c cf : ZC} {k : Int} (hzl : zs.length ≤ 65536) (h : ZOK zs d c) (hb : c.bad = false) (hs : zstep zs d c = .inr (k, cf)) : zstep0 zs d c = .inr (k, cf) := by
  unfold zstep at hs
  split at hs
  · rename_i c2 h2
    split at hs
    · cases hs
    · rename_i h3
      exact absurd (zstep_ok hzl h hb h2).2 h3
  · rename_i x h2
    injection hs with hs
    rw [← hs]
    exact h2
theorem zstep_go {zs d : List Int} {c c' : ZC} (hzl : zs.length ≤ 65536) (h : ZOK zs d c) (hb : c.bad = false) (hs : zstep0 zs d c = .inl c') : zstep zs d c = .inl c' := by
  unfold zstep
  rw [hs]
  exact if_pos (zstep_ok hzl h hb hs).2
theorem zstep_no {zs d : List Int} {c cf : ZC} {k : Int} (hs : zstep0 zs d c = .inr (k, cf)) : zstep zs d c = .inr (k, cf) := by
  unfold zstep
  rw [hs]
theorem znow_v (z q : Nat) (c : ZC) (hb : c.bad = false) (h : c.ph = 2) : nowV (znow z q) c = inow q (zSum z) c.ic.st := by
  unfold nowV znow inow
  rw [if_neg (by rw [hb]; decide), if_neg (by omega), if_neg (by omega), if_pos h]
  by_cases h15 : c.ic.st ≤ 15
  · rw [if_pos h15, if_pos h15]
  · rw [if_neg h15, if_neg h15]
    rfl
end Go.Proofs.YtbddkkfakkedaaaGreatDoor
namespace Go.Proofs.YtbddkkfakkedaaaGreatDoor
open Go.RowKit
set_option linter.unusedVariables false

theorem igo_zhead (args : Array Value) (W : World) : Sem.run Tryz.prog (callFunc 51 args) W = .ok (.enter 51 args) W := by kernel_rfl
theorem igo_zdict (args : Array Value) (W : World) : Sem.run Tryz.prog (callFunc 86 args) W = .ok (.enter 86 args) W := by kernel_rfl
theorem igo_zsum (args : Array Value) (W : World) : Sem.run Tryz.prog (callFunc 52 args) W = .ok (.enter 52 args) W := by kernel_rfl
/-- What of the memory stays as it is. -/
structure ZFix (z q p hB B : Nat) (bo : Option Addr) (cb : Nat) (d : List Int) (w0 : World) : Prop where
  oct : Octets d
  len : d.length ≤ 65536
  fit : d.length ≤ cb
  most : cb ≤ maxLen
  row : Row w0 bo d
  low : ∀ ad, bo = some ad → ad.block < B
  glob : Glob w0
  gB : 3 ≤ B
  Bw : B ≤ w0.heap.size
  bp : B ≤ p
  bq : B ≤ q
  bz : B ≤ z
  pq : q ≠ p
  zp : z ≠ p
  zq : z ≠ q
  hq : hB ≠ q
  hz : hB ≠ z
  gh : 3 ≤ hB
/-- A zlib frame's memory. -/
structure ZMem (z q p hB B : Nat) (bo : Option Addr) (cb : Nat) (zs d : List Int) (w0 W : World) (c : ZC) : Prop where
  bel : Below B w0 W
  ok : ZOK zs d c
  lo : c.ph ≤ 1 → (∃ n1, INewZ W q p n1 (zSum z)) ∧ Rd W p hB zs c.ic.lc.i ∧ (∃ x : Int, ZCells W z q (.slice bo d.length cb) x ∧ (c.ph = 1 → x = (c.sz : Nat))) ∧ c.ic.out = [] ∧ hB < W.heap.size
  hi : 2 ≤ c.ph → W.cell? ⟨z, 0, none⟩ = some (.pointer (some ⟨q, 0, none⟩)) ∧ ∃ g KH o, KH z = some o ∧ IMem KH q p hB g c.sz B zs (zSum z) W c.ic
theorem IMem.kz {KH : Nat → Option Obj} {q p hB g s B : Nat} {zs : List Int} {aft : Value} {w : World} {c : IC} (h : IMem KH q p hB g s B zs aft w c) {z : Nat} {o : Obj} (hk : KH z = some o) : w.heap[z]? = some o := by
  obtain ⟨T, hR, _⟩ := h.ex
  exact (hR.kz z o hk).2
theorem ZMem.cell {z q p hB B : Nat} {bo : Option Addr} {cb : Nat} {zs d : List Int} {w0 W : World} {c : ZC} (hF : ZFix z q p hB B bo cb d w0) (h : ZMem z q p hB B bo cb zs d w0 W c) : (∃ old, W.cell? ⟨q, 1, none⟩ = some old) ∧ W.frozen? ⟨q, 1, none⟩ = false ∧ W.cell? ⟨1, 0, none⟩ = some (.iface 227 (.agg #[.pointer (some ⟨3, 111, none⟩)])) := by
  refine ⟨?_, ?_, (hF.glob.below h.bel hF.gB).g0⟩
  · rcases Nat.lt_or_ge c.ph 2 with h1 | h1
    · obtain ⟨⟨n1, hN⟩, _⟩ := h.lo (by omega)
      exact ⟨_, hN.c1⟩
    · obtain ⟨_, g, KH, o, _, hM⟩ := h.hi h1
      exact hM.lm.c1
  · rcases Nat.lt_or_ge c.ph 2 with h1 | h1
    · obtain ⟨⟨n1, hN⟩, _⟩ := h.lo (by omega)
      exact hN.f 1
    · obtain ⟨_, g, KH, o, _, hM⟩ := h.hi h1
      exact hM.lm.free 1
theorem ZMem.set {z q p hB B : Nat} {bo : Option Addr} {cb : Nat} {zs d : List Int} {w0 W : World} {c : ZC} (hF : ZFix z q p hB B bo cb d w0) (h : ZMem z q p hB B bo cb zs d w0 W c) (v : Value) : ZMem z q p hB B bo cb zs d w0 (W.setCell ⟨q, 1, none⟩ v) c := by
  have hg := grownBy_setCell W ⟨q, 1, none⟩ v
  refine ⟨h.bel.setCell (p := ⟨q, 1, none⟩) hF.bq v, h.ok, fun h1 => ?_, fun h1 => ?_⟩
  · obtain ⟨⟨n1, hN⟩, hR, ⟨x, hZ, hx⟩, ho, hb⟩ := h.lo h1
    have hzw := World.block_lt_of_cell? W _ hZ.z0
    exact ⟨⟨v, hN.set1 v⟩, hR.grown hg (by simpa using fun e => hF.pq e.symm) (by simpa using hF.hq), ⟨x, hZ.same (hg.block z hzw (by simpa using hF.zq)), hx⟩, ho, Nat.lt_of_lt_of_le hb hg.size⟩
  · obtain ⟨hc, g, KH, o, hk, hM⟩ := h.hi h1
    exact ⟨hg.cell hc (by simpa using hF.zq), g, KH, o, hk, hM.next v⟩
theorem ZMem.below {z q p hB B : Nat} {bo : Option Addr} {cb : Nat} {zs d : List Int} {w0 W W' : World} {c : ZC} (hF : ZFix z q p hB B bo cb d w0) (h : ZMem z q p hB B bo cb zs d w0 W c) (hb : Below W.heap.size W W') : ZMem z q p hB B bo cb zs d w0 W' c := by
  have hBW : B ≤ W.heap.size := Nat.le_trans hF.Bw h.bel.size
  refine ⟨h.bel.trans (hb.mono hBW), h.ok, fun h1 => ?_, fun h1 => ?_⟩
  · obtain ⟨⟨n1, hN⟩, hR, ⟨x, hZ, hx⟩, ho, hbB⟩ := h.lo h1
    have hzw := World.block_lt_of_cell? W _ hZ.z0
    have hqw := World.block_lt_of_cell? W _ hN.c0
    exact ⟨⟨n1, hN.same (hb.block q hqw)⟩, hR.below hb, ⟨x, hZ.same (hb.block z hzw), hx⟩, ho, Nat.lt_of_lt_of_le hbB hb.size⟩
  · obtain ⟨hc, g, KH, o, hk, hM⟩ := h.hi h1
    have hzw := World.block_lt_of_cell? W _ hc
    exact ⟨(hb.cell (p := ⟨z, 0, none⟩) hzw).trans hc, g, KH, o, hk, hM.below hb⟩
/-- While the head is read: the source has gone on. -/
theorem ZMem.lo_went {z q p hB B : Nat} {bo : Option Addr} {cb : Nat} {zs d : List Int} {w0 W W' : World} {c : ZC} (hF : ZFix z q p hB B bo cb d w0) (h : ZMem z q p hB B bo cb zs d w0 W c) (h1 : c.ph ≤ 1) (hg : W.grownBy W' (some p)) {j : Nat} (hR : Rd W' p hB zs j) (c' : ZC) (hok : ZOK zs d c') (hph : c'.ph = c.ph) (hsz : c.ph = 1 → c'.sz = c.sz) (ho : c'.ic.out = []) (hj : c'.ic.lc.i = j) : ZMem z q p hB B bo cb zs d w0 W' c' := by
  have hBW : B ≤ W.heap.size := Nat.le_trans hF.Bw h.bel.size
  refine ⟨h.bel.grown hg hBW (fun k e => by cases e; exact hF.bp), hok, fun h2 => ?_, fun h2 => by omega⟩
  obtain ⟨⟨n1, hN⟩, _, ⟨x, hZ, hx⟩, _, hbB⟩ := h.lo h1
  have hzw := World.block_lt_of_cell? W _ hZ.z0
  have hqw := World.block_lt_of_cell? W _ hN.c0
  exact ⟨⟨n1, hN.same (hg.block q hqw (by simpa using hF.pq))⟩, by rw [hj]; exact hR, ⟨x, hZ.same (hg.block z hzw (by simpa using hF.zp)), fun e => by rw [hx (by omega), hsz (by omega)]⟩, ho, Nat.lt_of_lt_of_le hbB hg.size⟩
/-- Inflating begins. -/
theorem ZMem.begun {z q p hB B : Nat} {bo : Option Addr} {cb : Nat} {zs d : List Int} {w0 W W' : World} {n1 : Value} {i s : Nat} {t : List Int} (hF : ZFix z q p hB B bo cb d w0) (hb : Below B w0 W) (hR : Rd W p hB zs i) (hz0 : W.cell? ⟨z, 0, none⟩ = some (.pointer (some ⟨q, 0, none⟩))) (hbB : hB < W.heap.size) (hqW : q < W.heap.size) (hs : 0 < s ∧ s ≤ 32768) (hP : BeginPost q p s n1 (zSum z) t (.returned (inow q (zSum z) 7)) W W') (hok : ZOK zs d ⟨2, s, icA i t, false⟩) : ZMem z q p hB B bo cb zs d w0 W' ⟨2, s, icA i t, false⟩ := by
  obtain ⟨g, _, hN, hT, hg0, hg1, hgr⟩ := hP
  have hzw : z < W.heap.size := World.block_lt_of_cell? W _ hz0
  have hBW : B ≤ W.heap.size := Nat.le_trans hF.Bw hb.size
  have hb' := hb.grown hgr hBW (fun k e => by cases e; exact hF.bq)
  have hz1 : z < W'.heap.size := Nat.lt_of_lt_of_le hzw hgr.size
  have hRp := hR.lt
  have hbq := hF.bq
  refine ⟨hb', hok, fun h => absurd h (by show ¬ (2 : Nat) ≤ 1; omega), fun _ => ⟨hgr.cell hz0 (by simpa using hF.zq), g, fun k => if k = z then W'.heap[z]? else none, W'.heap[z], by simp [hz1], ?_⟩⟩
  have hgq : g ≠ q := by omega
  exact hN.mem hF.pq hF.hq hgq (by omega) (by omega) hF.gB hF.bq hF.bp (by omega) hF.gh (Nat.lt_of_lt_of_le hbB hgr.size) hs (hR.grown hgr (by simpa using fun e => hF.pq e.symm) (by simpa using hF.hq)) hT (hF.glob.below hb' hF.gB) (fun k o e => by
    by_cases hk : k = z
    · subst hk
      rw [if_pos rfl] at e
      exact ⟨e, hF.zq, hF.zp, by omega, fun e => hF.hz e.symm⟩
    · rw [if_neg hk] at e
      cases e)
end Go.Proofs.YtbddkkfakkedaaaGreatDoor
