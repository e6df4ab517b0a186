import Derived.BigRegion
import Derived.Test.YtbddkkfakkedaaaGreatDoorMBR
import Derived.Test.YtbddkkfakkedaaaGreatDoorMBX
namespace Go.Proofs.YtbddkkfakkedaaaGreatDoor
open Go.RowKit
set_option linter.unusedVariables false

theorem StepPost.ok {C : Type} {now : C → Option (Nat × Array Value)} {Mem : World → C → Prop} {B : Nat} {r : C ⊕ (Int × C)} {c' : C} {w w' : World} {v : Value} (hr : r = .inl c') (hv : v = nowV now c') (hM : Mem w' c') (hb : Below B w w') : StepPost now Mem B r (.returned (.tuple #[v, .nilIface])) w w' := by
  subst hr
  refine ⟨fun c h => ?_, fun k cf h => by cases h⟩
  injection h with h
  subst h
  exact ⟨by rw [hv], hM, hb⟩
theorem StepPost.no {C : Type} {now : C → Option (Nat × Array Value)} {Mem : World → C → Prop} {B : Nat} {r : C ⊕ (Int × C)} {cf : C} {k : Int} {w w' : World} {v : Value} (hr : r = .inr (k, cf)) (hM : Mem w' cf) (hb : Below B w w') : StepPost now Mem B r (.returned (.tuple #[v, flt k])) w w' := by
  subst hr
  refine ⟨fun c h => (by cases h), fun k cf h => ?_⟩
  injection h with h
  injection h with h1 h2
  subst h1
  subst h2
  exact ⟨v, rfl, hM, hb⟩
theorem ZOK.ofbad {zs d : List Int} {c : ZC} (h : c.ph ≤ 3) (hb : c.bad = true) : ZOK zs d c := ⟨h, fun e => (by rw [hb] at e; cases e), fun e => (by rw [hb] at e; cases e), fun e => (by rw [hb] at e; cases e)⟩
section
variable {z q p hB B : Nat} {bo : Option Addr} {cb : Nat} {zs d : List Int} {w0 W : World} {c : ZC}
theorem zs_head (hF : ZFix z q p hB B bo cb d w0) (hz : Octets zs) (hzl : zs.length ≤ 65536) (hM : ZMem z q p hB B bo cb zs d w0 W c) (hb : c.bad = false) (h0 : c.ph = 0) : Calls Tryz.prog 51 #[.pointer (some ⟨z, 0, none⟩)] W fun e W' => StepPost (znow z q) (ZMem z q p hB B bo cb zs d w0) B (zstep zs d c) e W W' := by
  have hBW : B ≤ W.heap.size := Nat.le_trans hF.Bw hM.bel.size
  obtain ⟨⟨n1, hN⟩, hR, ⟨x, hZ, _⟩, ho, hbB⟩ := hM.lo (by omega)
  have hzw := World.block_lt_of_cell? W _ hZ.z0
  have hqw := World.block_lt_of_cell? W _ hN.c0
  by_cases hn : c.ic.lc.i + 16 ≤ 8 * zs.length
  · by_cases hbd : zbad (field (bnum zs) c.ic.lc.i 16) = true
    · have hs : zstep0 zs d c = .inr (3, ⟨0, 0, icTo c.ic (c.ic.lc.i + 16), true⟩) := by unfold zstep0; rw [if_pos h0, if_pos hn, if_pos hbd]
      refine Calls.mono (head_bad z q p hB zs _ W hZ.z0 hN.c0 hR hz hzl hn hbd) ?_
      rintro e W' ⟨rfl, hR', hg⟩
      exact .no (zstep_no hs) (hM.lo_went hF (by omega) hg hR' _ (.ofbad (by show (0 : Nat) ≤ 3; omega) rfl) h0.symm (fun e => by omega) ho rfl) ((Below.refl _ _).grown hg hBW (fun k e => by cases e; exact hF.bp))
    · have hbd' : zbad (field (bnum zs) c.ic.lc.i 16) = false := by simpa using hbd
      by_cases hdc : zdic (field (bnum zs) c.ic.lc.i 16) = true
      · have hs : zstep0 zs d c = .inl ⟨1, zsz (field (bnum zs) c.ic.lc.i 16), icA (c.ic.lc.i + 16) [], false⟩ := by unfold zstep0; rw [if_pos h0, if_pos hn, if_neg hbd, if_pos hdc]
        refine Calls.mono (head_dict z q p hB zs _ _ x W hZ hF.zp hN.c0 hR hz hzl hn hbd' hdc) ?_
        rintro e W' ⟨rfl, w1, hR', hg, rfl⟩
        have hok := zstep_ok hzl hM.ok hb hs
        have hg2 := grownBy_setCell w1 ⟨z, 2, none⟩ (.int .i64 (zsz (field (bnum zs) c.ic.lc.i 16) : Nat))
        have hb1 : Below B W w1 := (Below.refl _ _).grown hg hBW (fun k e => by cases e; exact hF.bp)
        have hb2 := hb1.setCell (p := ⟨z, 2, none⟩) hF.bz (.int .i64 (zsz (field (bnum zs) c.ic.lc.i 16) : Nat))
        have Z1 := hZ.same (hg.block z hzw (by simpa using hF.zp))
        have N1 := hN.same (hg.block q hqw (by simpa using hF.pq))
        refine .ok (zstep_go hzl hM.ok hb hs) (by unfold nowV znow zDict; simp) ⟨hM.bel.trans hb2, hok.1, fun _ => ⟨⟨n1, N1.same (hg2.block q (Nat.lt_of_lt_of_le hqw hg.size) (by simpa using fun e => hF.zq e.symm))⟩, hR'.grown hg2 (by simpa using fun e => hF.zp e.symm) (by simpa using hF.hz), ⟨_, Z1.size _, fun _ => rfl⟩, rfl, Nat.lt_of_lt_of_le hbB (Nat.le_trans hg.size hg2.size)⟩, fun e => ?_⟩ hb2
        have : (2 : Nat) ≤ 1 := e
        omega
      · have hdc' : zdic (field (bnum zs) c.ic.lc.i 16) = false := by simpa using hdc
        have hs : zstep0 zs d c = .inl ⟨2, zsz (field (bnum zs) c.ic.lc.i 16), icA (c.ic.lc.i + 16) (lastN (zsz (field (bnum zs) c.ic.lc.i 16)) []), false⟩ := by unfold zstep0; rw [if_pos h0, if_pos hn, if_neg hbd, if_neg hdc]
        refine Calls.mono (head_plain z q p hB zs _ _ n1 (zSum z) x W hZ hN hF.zp hF.zq hF.pq hR hz hzl hn hbd' hdc') ?_
        rintro e W' ⟨rfl, w1, hR', hg, hP⟩
        have hok := zstep_ok hzl hM.ok hb hs
        have hg2 := grownBy_setCell w1 ⟨z, 2, none⟩ (.int .i64 (zsz (field (bnum zs) c.ic.lc.i 16) : Nat))
        have hb1 : Below B W w1 := (Below.refl _ _).grown hg hBW (fun k e => by cases e; exact hF.bp)
        have hb2 := (hb1.setCell (p := ⟨z, 2, none⟩) hF.bz (.int .i64 (zsz (field (bnum zs) c.ic.lc.i 16) : Nat))).drew
        have Z1 := hZ.same (hg.block z hzw (by simpa using hF.zp))
        have hbe : Below B W W' := by
          obtain ⟨g, _, _, _, _, _, hgr⟩ := hP
          exact hb2.grown hgr (Nat.le_trans hBW hb2.size) (fun k e => by cases e; exact hF.bq)
        have hz0 := (Z1.size (zsz (field (bnum zs) c.ic.lc.i 16) : Nat)).z0
        refine .ok (zstep_go hzl hM.ok hb hs) (by first | (rw [znow_v _ _ _ rfl rfl]; done) | (rw [znow_v _ _ _ rfl rfl]; rfl)) (ZMem.begun hF (hM.bel.trans hb2) ((hR'.grown hg2 (by simpa using fun e => hF.zp e.symm) (by simpa using hF.hz)).below (Below.refl _ _).drew) hz0 (Nat.lt_of_lt_of_le hbB (Nat.le_trans hg.size hg2.size)) (Nat.lt_of_lt_of_le hqw (Nat.le_trans hg.size hg2.size)) (zsz_bd hbd') hP hok.1) hbe
  · have hs : zstep0 zs d c = .inr (2, c) := by unfold zstep0; rw [if_pos h0, if_neg hn]
    refine Calls.mono (head_no z q p hB zs _ W hZ.z0 hN.c0 hR hzl hn) ?_
    rintro e W' ⟨rfl, hb'⟩
    exact .no (zstep_no hs) (hM.below hF hb') (hb'.mono hBW)
theorem zs_dict (hF : ZFix z q p hB B bo cb d w0) (hz : Octets zs) (hzl : zs.length ≤ 65536) (hM : ZMem z q p hB B bo cb zs d w0 W c) (hb : c.bad = false) (h1 : c.ph = 1) : Calls Tryz.prog 86 #[.pointer (some ⟨z, 0, none⟩)] W fun e W' => StepPost (znow z q) (ZMem z q p hB B bo cb zs d w0) B (zstep zs d c) e W W' := by
  have hBW : B ≤ W.heap.size := Nat.le_trans hF.Bw hM.bel.size
  have h0 : ¬ c.ph = 0 := by omega
  obtain ⟨⟨n1, hN⟩, hR, ⟨x, hZ, hx⟩, ho, hbB⟩ := hM.lo (by omega)
  rw [hx h1] at hZ
  obtain ⟨_, _, esz, ebd, _⟩ := hM.ok.p1 hb h1
  have hzw := World.block_lt_of_cell? W _ hZ.z0
  have hqw := World.block_lt_of_cell? W _ hN.c0
  have hrow : Row W bo d := hF.row.beneath hM.bel (fun ad e _ => hF.low ad e)
  have hlow : ∀ ad, bo = some ad → ad.block ≠ p ∧ ad.block < W.heap.size := fun ad e => by have := hF.low ad e; have := hF.bp; exact ⟨by omega, by omega⟩
  by_cases hn : c.ic.lc.i + 32 ≤ 8 * zs.length
  · by_cases hdd : d = [] ∨ ((rb4 (field (bnum zs) c.ic.lc.i 32) : Nat) : Int) ≠ Adl.adl d
    · have hs : zstep0 zs d c = .inr (5, ⟨1, c.sz, icTo c.ic (c.ic.lc.i + 32), true⟩) := by unfold zstep0; rw [if_neg h0, if_pos h1, if_pos hn, if_pos hdd]
      refine Calls.mono (dictSum_bad z q p hB zs d _ cb bo _ W hZ hF.zp hN.c0 hR hz hzl hn hrow hF.oct hF.fit hF.len (fun ad e => (hlow ad e).1) hdd) ?_
      rintro e W' ⟨rfl, hR', hg⟩
      exact .no (zstep_no hs) (hM.lo_went hF (by omega) hg hR' _ (.ofbad (by show (1 : Nat) ≤ 3; omega) rfl) h1.symm (fun e => rfl) ho rfl) ((Below.refl _ _).grown hg hBW (fun k e => by cases e; exact hF.bp))
    · have hs : zstep0 zs d c = .inl ⟨2, c.sz, icA (c.ic.lc.i + 32) (lastN c.sz d), false⟩ := by unfold zstep0; rw [if_neg h0, if_pos h1, if_pos hn, if_neg hdd]
      rw [not_or] at hdd
      have hd2 : ((rb4 (field (bnum zs) c.ic.lc.i 32) : Nat) : Int) = Adl.adl d := by simpa using hdd.2
      have hsb : 0 < c.sz ∧ c.sz ≤ 32768 := by rw [esz]; exact zsz_bd ebd
      refine Calls.mono (dictSum_ok z q p hB c.sz zs d _ cb bo n1 (zSum z) W hZ hN hF.zp hF.zq hF.pq hR hz hzl hn hsb.1 hsb.2 hrow hF.oct hF.fit hF.most hF.len hlow hdd.1 hd2) ?_
      rintro e W' ⟨rfl, w1, hR', hg, hP⟩
      have hok := zstep_ok hzl hM.ok hb hs
      have hb1 : Below B W w1 := (Below.refl _ _).grown hg hBW (fun k e => by cases e; exact hF.bp)
      have hb2 := hb1.drew
      have Z1 := hZ.same (hg.block z hzw (by simpa using hF.zp))
      have hbe : Below B W W' := by
        obtain ⟨g, _, _, _, _, _, hgr⟩ := hP
        exact hb2.grown hgr (Nat.le_trans hBW hb2.size) (fun k e => by cases e; exact hF.bq)
      exact .ok (zstep_go hzl hM.ok hb hs) (by first | (rw [znow_v _ _ _ rfl rfl]; done) | (rw [znow_v _ _ _ rfl rfl]; rfl)) (ZMem.begun hF (hM.bel.trans hb2) (hR'.below (Below.refl _ _).drew) Z1.z0 (Nat.lt_of_lt_of_le hbB hg.size) (Nat.lt_of_lt_of_le hqw hg.size) hsb hP hok.1) hbe
  · have hs : zstep0 zs d c = .inr (2, c) := by unfold zstep0; rw [if_neg h0, if_pos h1, if_neg hn]
    refine Calls.mono (dictSum_no z q p hB zs _ W hZ.z0 hN.c0 hR hzl hn) ?_
    rintro e W' ⟨rfl, hb'⟩
    exact .no (zstep_no hs) (hM.below hF hb') (hb'.mono hBW)
/-- The frame's memory behind a step of the inflater. -/
theorem ZMem.inf {W' : World} {KH : Nat → Option Obj} {g : Nat} {o : Obj} (hM : ZMem z q p hB B bo cb zs d w0 W c) (hz0 : W.cell? ⟨z, 0, none⟩ = some (.pointer (some ⟨q, 0, none⟩))) (hk : KH z = some o) (hI : IMem KH q p hB g c.sz B zs (zSum z) W c.ic) (hb : Below B W W') (c' : ZC) (hsz : c'.sz = c.sz) (hph : 2 ≤ c'.ph) (hI' : IMem KH q p hB g c.sz B zs (zSum z) W' c'.ic) (hok : ZOK zs d c') : ZMem z q p hB B bo cb zs d w0 W' c' := by
  refine ⟨hM.bel.trans hb, hok, fun h => by omega, fun _ => ⟨?_, g, KH, o, hk, by rw [hsz]; exact hI'⟩⟩
  have e : W'.heap[z]? = W.heap[z]? := by rw [hI'.kz hk, hI.kz hk]
  exact (World.cell?_of_block (w := W) (a := ⟨z, 0, none⟩) e).trans hz0
theorem zs_inf (hF : ZFix z q p hB B bo cb d w0) (hz : Octets zs) (hzl : zs.length ≤ 65536) (hM : ZMem z q p hB B bo cb zs d w0 W c) (hb : c.bad = false) (h2 : c.ph = 2) (h15 : c.ic.st ≤ 15) : Calls Tryz.prog (ifn c.ic.st) #[.pointer (some ⟨q, 0, none⟩)] W fun e W' => StepPost (znow z q) (ZMem z q p hB B bo cb zs d w0) B (zstep zs d c) e W W' := by
  have h0 : ¬ c.ph = 0 := by omega
  have h1 : ¬ c.ph = 1 := by omega
  obtain ⟨hz0, g, KH, o, hk, hI⟩ := hM.hi (by omega)
  obtain ⟨hW, _⟩ := hM.ok.p2 hb h2
  refine Calls.mono (istate_any q p hB g c.sz B zs (zSum z) c.ic W hI hW h15 hz hzl) ?_
  rintro e W' ⟨hy, hno⟩
  cases hi : istep0 c.sz zs c.ic with
  | inl i' =>
    obtain ⟨rfl, hI', hb'⟩ := hy i' hi
    have hs : zstep0 zs d c = .inl ⟨2, c.sz, i', false⟩ := by unfold zstep0; rw [if_neg h0, if_neg h1, if_pos h2, if_pos h15, hi]
    exact .ok (zstep_go hzl hM.ok hb hs) (by first | (rw [znow_v _ _ _ rfl rfl]; done) | (rw [znow_v _ _ _ rfl rfl]; rfl)) (hM.inf hz0 hk hI hb' _ rfl (Nat.le_refl _) hI' (zstep_ok hzl hM.ok hb hs).1) hb'
  | inr kc =>
    obtain ⟨k, i'⟩ := kc
    obtain ⟨v, rfl, hI', hb'⟩ := hno k i' hi
    have hs : zstep0 zs d c = .inr (k, if k = 2 then c else ⟨2, c.sz, i', true⟩) := by unfold zstep0; rw [if_neg h0, if_neg h1, if_pos h2, if_pos h15, hi]
    by_cases hk2 : k = 2
    · rw [if_pos hk2] at hs
      subst hk2
      have e2 := istep0_two hW hi
      rw [e2] at hI'
      exact .no (zstep_no hs) (hM.inf hz0 hk hI hb' c rfl (by omega) hI' hM.ok) hb'
    · rw [if_neg hk2] at hs
      exact .no (zstep_no hs) (hM.inf hz0 hk hI hb' ⟨2, c.sz, i', true⟩ rfl (Nat.le_refl _) hI' (.ofbad (by show (2 : Nat) ≤ 3; omega) rfl)) hb'
theorem zs_sum (hF : ZFix z q p hB B bo cb d w0) (hz : Octets zs) (hzl : zs.length ≤ 65536) (hend : ∀ s c, ZReach zs d s c → c.st = 16 → c.out.length ≤ 65536 ∧ Octets c.out) (hM : ZMem z q p hB B bo cb zs d w0 W c) (hb : c.bad = false) (h2 : c.ph = 2) (h15 : ¬ c.ic.st ≤ 15) : Calls Tryz.prog 52 #[.pointer (some ⟨z, 0, none⟩)] W fun e W' => StepPost (znow z q) (ZMem z q p hB B bo cb zs d w0) B (zstep zs d c) e W W' := by
  have h0 : ¬ c.ph = 0 := by omega
  have h1 : ¬ c.ph = 1 := by omega
  obtain ⟨hz0, g, KH, o, hk, hI⟩ := hM.hi (by omega)
  obtain ⟨hW, hRe⟩ := hM.ok.p2 hb h2
  have h16 : c.ic.st = 16 := by have := hW.s16; omega
  obtain ⟨hol, hoc⟩ := hend _ _ hRe h16
  by_cases hn : (c.ic.lc.i + 7) / 8 * 8 + 32 ≤ 8 * zs.length
  · refine Calls.mono (outSum_yes z q p hB g c.sz B zs (zSum z) c.ic W hI hz0 hF.zp hz hzl hn hol hoc) ?_
    rintro e W' ⟨rfl, hI', hb'⟩
    by_cases hc : ((rb4 (field (bnum zs) ((c.ic.lc.i + 7) / 8 * 8) 32) : Nat) : Int) = Adl.adl c.ic.out
    · have hs : zstep0 zs d c = .inl ⟨3, c.sz, icTo c.ic ((c.ic.lc.i + 7) / 8 * 8 + 32), false⟩ := by unfold zstep0; rw [if_neg h0, if_neg h1, if_pos h2, if_neg h15, if_pos hn, if_pos hc]
      rw [if_pos hc]
      exact .ok (zstep_go hzl hM.ok hb hs) (by unfold nowV znow; simp) (hM.inf hz0 hk hI hb' _ rfl (by show (2 : Nat) ≤ 3; omega) hI' (zstep_ok hzl hM.ok hb hs).1) hb'
    · have hs : zstep0 zs d c = .inr (4, ⟨2, c.sz, icTo c.ic ((c.ic.lc.i + 7) / 8 * 8 + 32), true⟩) := by unfold zstep0; rw [if_neg h0, if_neg h1, if_pos h2, if_neg h15, if_pos hn, if_neg hc]
      rw [if_neg hc]
      exact .no (zstep_no hs) (hM.inf hz0 hk hI hb' ⟨2, c.sz, icTo c.ic ((c.ic.lc.i + 7) / 8 * 8 + 32), true⟩ rfl (Nat.le_refl _) hI' (.ofbad (by show (2 : Nat) ≤ 3; omega) rfl)) hb'
  · have hs : zstep0 zs d c = .inr (2, ⟨2, c.sz, icTo c.ic ((c.ic.lc.i + 7) / 8 * 8), true⟩) := by unfold zstep0; rw [if_neg h0, if_neg h1, if_pos h2, if_neg h15, if_neg hn]
    refine Calls.mono (outSum_no z q p hB g c.sz B zs (zSum z) c.ic W hI hz0 hF.zp hzl hn) ?_
    rintro e W' ⟨rfl, hI', hb'⟩
    exact .no (zstep_no hs) (hM.inf hz0 hk hI hb' ⟨2, c.sz, icTo c.ic ((c.ic.lc.i + 7) / 8 * 8), true⟩ rfl (Nat.le_refl _) hI' (.ofbad (by show (2 : Nat) ≤ 3; omega) rfl)) hb'
end
theorem znow_is {z q : Nat} {c : ZC} {f : Nat} {caps : Array Value} (h : znow z q c = some (f, caps)) : c.bad = false ∧ ((c.ph = 0 ∧ f = 51 ∧ caps = #[.pointer (some ⟨z, 0, none⟩)]) ∨ (c.ph = 1 ∧ f = 86 ∧ caps = #[.pointer (some ⟨z, 0, none⟩)]) ∨ (c.ph = 2 ∧ c.ic.st ≤ 15 ∧ f = ifn c.ic.st ∧ caps = #[.pointer (some ⟨q, 0, none⟩)]) ∨ (c.ph = 2 ∧ ¬ c.ic.st ≤ 15 ∧ f = 52 ∧ caps = #[.pointer (some ⟨z, 0, none⟩)])) := by
  unfold znow at h
  by_cases hb : c.bad = true
  · rw [if_pos hb] at h; cases h
  rw [if_neg hb] at h
  refine ⟨by simpa using hb, ?_⟩
  split at h
  · rename_i h0
    injection h with h; injection h with e1 e2
    exact .inl ⟨h0, e1.symm, e2.symm⟩
  · split at h
    · rename_i h1
      injection h with h; injection h with e1 e2
      exact .inr (.inl ⟨h1, e1.symm, e2.symm⟩)
    · split at h
      · rename_i h2
        split at h
        · rename_i h15
          injection h with h; injection h with e1 e2
          exact .inr (.inr (.inl ⟨h2, h15, e1.symm, e2.symm⟩))
        · rename_i h15
          injection h with h; injection h with e1 e2
          exact .inr (.inr (.inr ⟨h2, h15, e1.symm, e2.symm⟩))
      · cases h
set_option maxRecDepth 100000 in
/-- A zlib frame, run. -/
theorem zframe_run {z q p hB B : Nat} {bo : Option Addr} {cb : Nat} {zs d : List Int} {w0 : World} (hF : ZFix z q p hB B bo cb d w0) (hz : Octets zs) (hzl : zs.length ≤ 65536) (hend : ∀ s c, ZReach zs d s c → c.st = 16 → c.out.length ≤ 65536 ∧ Octets c.out) (c0 : ZC) (w : World) (hM : ZMem z q p hB B bo cb zs d w0 w c0) (hn : w.cell? ⟨q, 1, none⟩ = some (nowV (znow z q) c0)) :
    Calls Tryz.prog 25 #[.pointer (some ⟨q, 0, none⟩)] w fun e w' => RunPost (znow z q) (zstep zs d) (ZMem z q p hB B bo cb zs d w0) B c0 w e w' := by
  refine run_any q B (znow z q) (ZMem z q p hB B bo cb zs d w0) (zstep zs d) (zmu zs) hF.bq ?_ ?_ ?_ ?_ ?_ ?_ c0 w hM hn
  · intro c f caps h args W
    obtain ⟨_, ⟨_, rfl, _⟩ | ⟨_, rfl, _⟩ | ⟨_, h15, rfl, _⟩ | ⟨_, _, rfl, _⟩⟩ := znow_is h
    · exact igo_zhead args W
    · exact igo_zdict args W
    · exact ifn_go _ h15 args W
    · exact igo_zsum args W
  · intro W c h
    exact h.cell hF
  · intro W c v h
    exact h.set hF v
  · intro W W' c h hb
    exact h.below hF hb
  · intro W c f caps h hMc
    obtain ⟨hb, ⟨h0, rfl, rfl⟩ | ⟨h1, rfl, rfl⟩ | ⟨h2, h15, rfl, rfl⟩ | ⟨h2, h15, rfl, rfl⟩⟩ := znow_is h
    · exact zs_head hF hz hzl hMc hb h0
    · exact zs_dict hF hz hzl hMc hb h1
    · exact zs_inf hF hz hzl hMc hb h2 h15
    · exact zs_sum hF hz hzl hend hMc hb h2 h15
  · intro c c' _ h
    exact (zstep_inl h).2
end Go.Proofs.YtbddkkfakkedaaaGreatDoor
namespace Go.Proofs.YtbddkkfakkedaaaGreatDoor
open Go.RowKit
attribute [local go_sem ↓] Go.wp_at_zero Go.wp_at_succ
set_option linter.unusedVariables false

/-- Where a zlib frame begins. -/
def zc0 : ZC := ⟨0, 0, icA 0 [], false⟩
def zRes (k : Int) (cf : ZC) : Int := if k = 1 then ((cf.ic.lc.i / 8 : Nat) : Int) else 0
theorem zc0_ok (zs d : List Int) : ZOK zs d zc0 := by
  refine ⟨Nat.zero_le _, fun _ _ => rfl, fun _ e => ?_, fun _ e => ?_⟩
  · have : (0 : Nat) = 1 := e; omega
  · have : (0 : Nat) = 2 := e; omega
/-- What is found in a zlib frame's memory at its end. -/
theorem ZMem.fin {z q p hB B : Nat} {bo : Option Addr} {cb : Nat} {zs d : List Int} {w0 W : World} {c : ZC} (h : ZMem z q p hB B bo cb zs d w0 W c) : (∃ oa oc, W.cell? ⟨q, 30, none⟩ = some (.slice oa c.ic.out.length oc) ∧ OwnsB 5 B W oa oc c.ic.out) ∧ W.cell? ⟨q, 0, none⟩ = some (.pointer (some ⟨p, 0, none⟩)) ∧ W.cell? ⟨z, 0, none⟩ = some (.pointer (some ⟨q, 0, none⟩)) ∧ Rd W p hB zs c.ic.lc.i := by
  rcases Nat.lt_or_ge c.ph 2 with h1 | h1
  · obtain ⟨⟨n1, hN⟩, hR, ⟨x, hZ, hx⟩, ho, hbB⟩ := h.lo (by omega)
    rw [ho]
    exact ⟨⟨none, 0, hN.c30, OwnsB.nil _ _ _⟩, hN.c0, hZ.z0, hR⟩
  · obtain ⟨hc, g, KH, o, hk, hM⟩ := h.hi h1
    obtain ⟨T, hIR, _⟩ := hM.ex
    obtain ⟨oa, oc, q30, hown, _⟩ := hIR.o30
    exact ⟨⟨oa, oc, q30, hown⟩, hM.lm.c0, hc, hM.lm.rd⟩
set_option maxRecDepth 100000 in
set_option maxHeartbeats 6400000 in
theorem izlib_any (ao bo : Option Addr) (cap cb : Nat) (zs d : List Int) (w : World) (hr : Row w ao zs) (hnil : ao = none → zs.length = 0 ∧ cap = 0) (hz : Octets zs) (hl : zs.length ≤ 65536) (hd : Octets d) (hdl : d.length ≤ 65536) (hrd : Row w bo d) (hdf : d.length ≤ cb) (hdc : cb ≤ maxLen) (hdb : ∀ ad, bo = some ad → ad.block < w.heap.size) (hG : Glob w) (hend : ∀ s c, ZReach zs d s c → c.st = 16 → c.out.length ≤ 65536 ∧ Octets c.out) :
    Calls Tryz.prog 7 #[.slice ao zs.length cap, .slice bo d.length cb] w fun e w' => ∃ z q k cf, Ends (znow z q) (zstep zs d) zc0 k cf ∧ InfIs k cf.ic.out (zRes k cf) e w w' := by
  have HR := hideM hr
  have HNIL := hideM hnil
  have HZ := hideM hz
  have HD := hideM hd
  have HG := hideM hG
  have HEND := hideM hend
  have HRD := hideM hrd
  have HDB := hideM hdb
  have HDF := hideM (And.intro hdf hdc)
  have hGs := hG.sz
  have hd1 : decide ((zs.length : Int) > 65536) = false := decide_eq_false (by omega)
  have b0 : Below w.heap.size w (w.alloc (.cells #[.int .i64 0, .slice none 0 0, .int .i64 0] 27)) := (Below.refl _ _).alloc (Nat.le_refl _) _
  have B0 := hideM b0
  have R0 := hideM (rs3v_new w (.int .i64 0) (.slice none 0 0) (.int .i64 0) 27)
  have z0 : (w.alloc (.cells #[.int .i64 0, .slice none 0 0, .int .i64 0] 27)).heap.size = w.heap.size + 1 := by simp
  have NZ := hideM (newZlibFrame_any bo d.length cb (w.alloc (.cells #[.int .i64 0, .slice none 0 0, .int .i64 0] 27)))
  rw [z0] at NZ
  clear hr hnil hz hG hrd hdf hdc hdb b0 hd hend
  go_enter Tryz.func7, Tryz.ntmps7
  go_wp2_with fail
  refine Calls.mono NZ.out ?_
  rintro e w2 ⟨z, q, p, a1, c1, rfl, hZ, hN, hS, hO, hp, hpq, hqz, hzw, hne, hnq, hnz, hb⟩
  have B2 := hideM (B0.out.trans (hb.mono (by omega)))
  have R2 := hideM (R0.out.below hb (by omega))
  have N2 := hideM hN
  have Z2 := hideM hZ
  have hc0 := hN.c0
  have hcz := hZ.z0
  have HNE := hideM (And.intro hne (And.intro hnq hnz))
  have FD := hideM (feed_new p a1 ao c1 cap zs (w.heap.size + 1) w2 hS hO (by omega) (by omega) hne (HR.out.below B2.out) HNIL.out hl)
  have hq2 : q < w2.heap.size := by omega
  have hs2 : w.heap.size + 1 ≤ w2.heap.size := by omega
  clear hN hZ hS hO hne hnq hnz hb B0 R0 NZ z0
  go_wp2_with fail
  refine Calls.mono FD.out ?_
  rintro e w3 ⟨rfl, ⟨a2, c2, hs2', hr2, hcap2, hbl2⟩, hk2, hb2⟩
  have hs3 : w2.heap.size ≤ w3.heap.size := hb2.size
  obtain ⟨hB, hBe, hBp, hBq, hBz, hBl, hBw⟩ : ∃ hB, (∀ ad, a2 = some ad → ad.block = hB) ∧ hB ≠ p ∧ hB ≠ q ∧ hB ≠ z ∧ w.heap.size ≤ hB ∧ hB < w3.heap.size := by
    cases a2 with
    | none => exact ⟨w.heap.size, ⟨(fun ad e => by cases e), by omega, by omega, by omega, Nat.le_refl _, by omega⟩⟩
    | some ad =>
      obtain ⟨h1, h2, h3⟩ := hbl2 ad rfl
      refine ⟨ad.block, ⟨(fun ad' e => by cases e; rfl), ?_, ?_, ?_, by omega, h3⟩⟩
      · rcases h1 with h | h
        · intro e; exact HNE.out.1 (e ▸ h)
        · omega
      · rcases h1 with h | h
        · intro e; exact HNE.out.2.1 (e ▸ h)
        · omega
      · rcases h1 with h | h
        · intro e; exact HNE.out.2.2 (e ▸ h)
        · omega
  have RD3 : Rd w3 p hB zs 0 := ⟨Nat.zero_le _, hBp, a2, c2, hs2', hr2, hcap2, hBe⟩
  have N3 := N2.out.same (hk2 q hq2 (by omega) (fun e => HNE.out.2.1 e))
  have Z3 := Z2.out.same (hk2 z hzw (by omega) (fun e => HNE.out.2.2 e))
  have B3 := hideM (B2.out.trans (hb2.mono (Nat.le_succ _)))
  have G3 := HG.out.below B3.out hGs
  have F3 : ZFix z q p hB (w.heap.size + 1) bo cb d w3 := ⟨HD.out, hdl, HDF.out.1, HDF.out.2, HRD.out.below B3.out, fun ad e => Nat.lt_succ_of_lt (HDB.out ad e), G3, by omega, by omega, hp, by omega, by omega, by omega, by omega, by omega, hBq, hBz, by omega⟩
  have M3 : ZMem z q p hB (w.heap.size + 1) bo cb zs d w3 w3 zc0 := ⟨Below.refl _ _, zc0_ok zs d, fun _ => ⟨⟨_, N3⟩, RD3, ⟨0, Z3, fun e => by have : (0 : Nat) = 1 := e; omega⟩, rfl, hBw⟩, fun e => by have : (2 : Nat) ≤ 0 := e; omega⟩
  have R3 := hideM (R2.out.below hb2 (Nat.lt_succ_self _))
  have hq3 : q < w3.heap.size := by omega
  have hz3 : z < w3.heap.size := by omega
  have RUN := hideM (zframe_run F3 HZ.out hl HEND.out zc0 w3 M3 (by rw [N3.c1]; unfold nowV znow zc0 zHead; simp))
  have k0 := N3.c0
  have kz := Z3.z0
  clear hs2' hr2 hcap2 hbl2 hk2 hb2 hBe RD3 N3 Z3 G3 M3 F3 N2 Z2 B2 R2 HNE FD hc0 hcz hBp hBq hBz hBl hBw
  go_wp2_with fail
  refine Calls.mono RUN.out ?_
  rintro e w4 ⟨k, cf, rfl, hE, hM, hb4⟩
  have B4 := hideM (B3.out.trans (hb4.mono (Nat.le_succ _)))
  have R4 := hideM (R3.out.below hb4 (Nat.lt_succ_self _))
  have HE := hideM hE
  obtain ⟨⟨oa, oc, q30, hown⟩, q0, zz0, hrd4⟩ := hM.fin
  have hs4 : w3.heap.size ≤ w4.heap.size := hb4.size
  have hq4 : q < w4.heap.size := by omega
  have hz4 : z < w4.heap.size := by omega
  have OW := hideM hown
  have HBO := hideM (OwnsB.based hown)
  obtain ⟨n, hn⟩ : ∃ n, cf.ic.out.length = n := ⟨_, rfl⟩
  have HN := hideM hn
  rw [hn] at q30
  obtain ⟨r0, r1, r2, rf⟩ := R4.out
  have rf0 := rf 0
  have rf1 := rf 1
  have rf2 := rf 2
  obtain ⟨us, hus⟩ : ∃ us : Nat, cf.ic.lc.i = us := ⟨_, rfl⟩
  have hsrc : w4.cell? ⟨p, 2, none⟩ = some (.int .i64 (us : Nat)) := by
    obtain ⟨_, _, hh, _⟩ := hrd4.src
    have := hh.2.2.1
    rw [← hus]
    exact this
  have hp4 : p < w4.heap.size := hrd4.lt
  have hul : us ≤ 524288 := by have := hrd4.le; omega
  have HUS := hideM hus
  obtain ⟨U, hU⟩ : ∃ U : Nat, us / 8 = U := ⟨_, rfl⟩
  have hUt : ((us : Nat) : Int).tdiv 8 = (U : Int) := by rw [Int.tdiv_eq_ediv_of_nonneg (by omega), ← hU]; omega
  have HU := hideM hU
  have hUw : wrap64 (U : Int) = (U : Int) := by unfold wrap64; omega
  clear hE RUN B3 R3 hb4 hM hown rf hn hus hrd4 hU k0 kz
  by_cases hk1 : k = 1
  · subst hk1
    have E := hideM (R4.out.set (.int .i64 1) (.slice oa n oc) (.int .i64 (U : Nat)))
    have hw4 := B4.out.size
    have B5 := hideM (B4.out.grown E.out.2 B4.out.size (fun k e => by simp at e; omega))
    have O5 := hideM ((OW.out.mono (Nat.le_succ _)).grown E.out.2 (fun k e e2 => by have := HBO.out k e2; simp at e; omega))
    clear OW HBO
    go_upto_region 8 with fail
    go_region
    go_wp2_with fail
    obtain ⟨⟨y0, y1, y2, _⟩, _⟩ := E.out
    exact bodyPost_ret (v := .agg #[.int .i64 1, .slice oa n oc, .int .i64 (U : Nat)]) (by simp [results, Tryz.results7, go_sem, y0, y1, y2]) rfl ⟨z, q, 1, cf, HE.out, oa, oc, by unfold zRes; rw [if_pos rfl, HN.out, HUS.out, HU.out], O5.out.below (Below.refl _ _).drew, B5.out.drew⟩
  · have hkb : (k != 1) = true := by simp [hk1]
    have HK1 := hideM hk1
    have E := hideM (R4.out.set (.int .i64 k) (.slice oa n oc) (.int .i64 0))
    have hw4 := B4.out.size
    have B5 := hideM (B4.out.grown E.out.2 B4.out.size (fun k e => by simp at e; omega))
    have O5 := hideM ((OW.out.mono (Nat.le_succ _)).grown E.out.2 (fun k e e2 => by have := HBO.out k e2; simp at e; omega))
    clear OW HBO hk1 hUt hUw HU
    go_wp2_with fail
    obtain ⟨⟨y0, y1, y2, _⟩, _⟩ := E.out
    exact bodyPost_ret (v := .agg #[.int .i64 k, .slice oa n oc, .int .i64 0]) (by simp [results, Tryz.results7, go_sem, y0, y1, y2]) rfl ⟨z, q, k, cf, HE.out, oa, oc, by unfold zRes; rw [if_neg HK1.out, HN.out], O5.out, B5.out⟩
end Go.Proofs.YtbddkkfakkedaaaGreatDoor
