import Derived.Test.YtmfacacpoajpgaaSumL
namespace Go.Proofs.Ytmfacacpoajpgaa
open Go.RowKit
attribute [local go_sem ↓] Go.wp_at_zero Go.wp_at_succ

theorem octets_set {zs : List Int} (h : Octets zs) (k : Nat) : Octets (zs.set k 255) := by
  intro z hz
  rcases List.mem_or_eq_of_mem_set hz with hz | rfl
  · exact h z hz
  · decide

set_option maxHeartbeats 3200000 in
/-- spec.DrawAdlerUpdate: fewer than 60 bytes, in a block of the call's own. -/
theorem drawAdler_any (co : Option Addr) (cc : Nat) (cs : List Int) (w : World) (hr : Row w co cs) (ho : Octets cs) (hl : cs.length ≤ 1048576) :
    Calls Try.prog 9 #[.slice co cs.length cc] w fun e w' => ∃ x ao cap zs, e = .returned (.tuple #[.int .u32 x, .slice ao zs.length cap]) ∧ Row w' ao zs ∧ Octets zs ∧ zs.length < 60 ∧ zs.length ≤ cap ∧ Below w.heap.size w w' := by
  have hco := hr.lives
  go_enter Try.func9, Try.ntmps9
  go_wp2_with fail
  refine (l1New_any co cc cs w hr hl).mono ?_
  rintro e w1 ⟨p, rfl, ⟨h, hs⟩, rfl, hb1, hlt1⟩
  have hc1 : Cur w1 w.heap.size co cc cs := ⟨0, h, Nat.zero_le _, hs, hr.below hb1, ho, fun ad e h0 => by have := hco ad e h0; omega, hl⟩
  clear hs
  go_wp2_with fail
  refine (l1Number_any w.heap.size co cc cs w1 hc1).mono ?_
  rintro e w2 ⟨⟨x, rfl⟩, hc2, hg2⟩
  go_wp2_with fail
  refine (l1Once_any w.heap.size co cc cs 3 w2 hc2 (by decide) (by decide)).mono ?_
  rintro e w2' ⟨⟨b, rfl⟩, hc2', hg2'⟩
  have hg2' := grownBy_trans hg2 hg2'
  have hsz2 := hg2'.size
  clear hc1 hc2 hg2 hr
  cases b
  all_goals
    go_wp2_with fail
    refine (l1Below_any w.heap.size co cc cs 60 w2' hc2' (by decide) (by decide)).mono ?_
    rintro e w3 ⟨⟨n, rfl, n0, n1⟩, hc3, hg3⟩
    obtain ⟨m, rfl⟩ := Int.eq_ofNat_of_zero_le n0
    have hg13 := grownBy_trans hg2' hg3
    have hz3 := hg13.size
    have HCO : Hid (∀ ad, co = some ad → 0 < cs.length → ad.block < w3.heap.size) := fun ad e h0 => by have := hco ad e h0; omega
    clear hc2' hg2' hg3 hco
    go_wp2_with fail
    refine (l1Some_any w.heap.size co cc cs m w3 hc3 (by omega) HCO.out).mono ?_
    rintro e w4 ⟨⟨ao, cap, zs, rfl, ho4, hoct, hlen⟩, hc4, hg4⟩
    have hg := grownBy_trans hg13 hg4
    have HLN : Hid (zs.length = m) := hlen
    clear hlen hc3 hg13 hg4
    go_wp2_with fail
    refine (l1Once_any w.heap.size co cc cs 8 w4 hc4 (by decide) (by decide)).mono ?_
    rintro e w5 ⟨⟨b2, rfl⟩, hc5, hg5⟩
    have hmine : Mine w3.heap.size w5 ao cap zs := ho4.mine.grown hg5 (fun k e => by simp only [Option.some.injEq] at e; subst e; exact ho4.mine.far (by omega))
    have hg := grownBy_trans hg hg5
    have hz5 := hg.size
    have HB : Hid (Below w.heap.size w w5) := hb1.grown hg (by omega) (by intro k e; simp at e; omega)
    clear hc4 hc5 hg5 ho4 hg hb1
    cases b2
    · go_wp2_with fail
      go_ret2
      exact ⟨_, ao, cap, zs, rfl, hmine.row, hoct, by have := HLN.out; omega, hmine.fits, HB.out⟩
    · have h60 : zs.length < 60 := by have := HLN.out; omega
      go_wp2_with fail
      go_loopw [22] (fun i wr => ∃ j : Nat, j ≤ zs.length ∧ i = .int .i64 j ∧ (∃ ys, Hid (ys.length = zs.length ∧ Octets ys) ∧ Row wr ao ys) ∧ Open wr ao zs.length ∧ w5.grownBy wr (blk ao)) (fun i _ => zs.length - (intOf i).toNat)
      case atStart => exact ⟨0, Nat.zero_le _, rfl, ⟨zs, ⟨rfl, hoct⟩, hmine.row⟩, hmine.free, World.grownBy.refl _ _⟩
      case round =>
        obtain ⟨j, hj, rfl, ⟨ys, hys, hr⟩, hop, hg⟩ := hrel
        have hyl := hys.out.1
        by_cases hlt : j < zs.length
        · obtain ⟨b, off, rfl, hc⟩ := hr.at (k := j) (by omega)
          have hcj := hc j (by omega)
          have hfj : wr.frozen? ⟨b, off + j, none⟩ = false := hop _ rfl j hlt
          have hr2 := hr.set (k := j) (by omega) 255
          have hg2 : w5.grownBy (wr.setCell ⟨b, off + j, none⟩ (.int .u8 255)) (blk (some ⟨b, off, none⟩)) := grownBy_trans hg (grownBy_setCell wr ⟨b, off + j, none⟩ _)
          have ho2 : Open (wr.setCell ⟨b, off + j, none⟩ (.int .u8 255)) (some ⟨b, off, none⟩) zs.length := by
            intro ad e i hi
            rw [World.frozen?_setCell]
            exact hop ad e i hi
          clear hc hr hop hg
          generalize ys.getD j 0 = y at *
          go_wp2_with fail
          go_roundw
          case rel => exact ⟨j + 1, by omega, by go_num, ⟨ys.set j 255, ⟨by rw [List.length_set]; exact hyl, octets_set hys.out.2 j⟩, hr2⟩, ho2, hg2⟩
          case measure => simp [intOf]; omega
        · have HR : Hid (Row wr ao ys) := hr
          have HG : Hid (w5.grownBy wr (blk ao)) := hg
          clear hr hop hg
          go_wp2_with fail
          go_ret2
          rw [← hyl]
          refine ⟨_, ao, cap, ys, rfl, HR.out, hys.out.2, by omega, by have := hmine.fits; omega, ?_⟩
          refine HB.out.grown HG.out (by omega) ?_
          intro k e
          cases ao with
          | none => cases e
          | some ad =>
            have := (hmine.lies ad rfl).1
            simp [blk] at e
            omega

theorem row_take {w : World} {ao : Option Addr} {zs : List Int} (h : Row w ao zs) (k : Nat) : Row w ao (zs.take k) := by
  intro i hi
  rw [List.length_take] at hi
  obtain ⟨b, off, rfl, hc⟩ := h i (by omega)
  refine ⟨b, off, rfl, ?_⟩
  rw [hc]
  simp [List.getD, show i < k from by omega]

theorem row_drop {w : World} {b off : Nat} {zs : List Int} (h : Row w (some ⟨b, off, none⟩) zs) (k : Nat) : Row w (some ⟨b, off + k, none⟩) (zs.drop k) := by
  intro i hi
  rw [List.length_drop] at hi
  obtain ⟨b', off', e, hc⟩ := h (k + i) (by omega)
  simp only [Option.some.injEq, Addr.mk.injEq, and_true] at e
  obtain ⟨rfl, rfl⟩ := e
  refine ⟨b, off + k, rfl, ?_⟩
  rw [Nat.add_assoc, hc]
  simp [List.getD]

theorem law_sums_big1 (co mo : Option Addr) (n cc m cm : Nat) (w : World) (h : 1048576 < n) (hn : n ≤ 9223372036854775807) :
    Calls Try.prog 3 #[.slice co n cc, .slice mo m cm] w fun e w' => e = .returned (.bool true) ∧ Below w.heap.size w w' := by
  go_enter Try.func3, Try.ntmps3
  go_wp2_with fail
  go_ret
  exact ⟨rfl, Below.refl _ _⟩

theorem law_sums_big2 (co mo : Option Addr) (n cc m cm : Nat) (w : World) (hn : n ≤ 1048576) (h : 1048576 < m) (hm : m ≤ 9223372036854775807) :
    Calls Try.prog 3 #[.slice co n cc, .slice mo m cm] w fun e w' => e = .returned (.bool true) ∧ Below w.heap.size w w' := by
  go_enter Try.func3, Try.ntmps3
  go_wp2_with fail
  go_ret
  exact ⟨rfl, Below.refl _ _⟩

set_option maxHeartbeats 3200000 in
theorem law_sums (co mo : Option Addr) (cc cm : Nat) (cs ms : List Int) (w : World) (hr : Row w co cs) (hrm : Row w mo ms) (ho : Octets cs) (hom : Octets ms) (hn : cs.length ≤ 1048576) (hm : ms.length ≤ 1048576) :
    Calls Try.prog 3 #[.slice co cs.length cc, .slice mo ms.length cm] w fun e w' => e = .returned (.bool true) ∧ Below w.heap.size w w' := by
  go_enter Try.func3, Try.ntmps3
  go_wp2_with fail
  refine (drawAdler_any co cc cs w hr ho hn).mono ?_
  rintro e w1 ⟨x, ao, cap, zs, rfl, hrz, hoz, h60, hcap, hb⟩
  have hrm1 := hrm.below hb
  have HB : Hid (Below w.heap.size w w1) := hb
  clear hr hrm ho hb
  by_cases hpos : 0 < zs.length
  · go_wp2_with fail
    refine (lwAt_any mo cm ms 0 w1 hrm1 hom (by decide)).mono ?_
    rintro e w' ⟨⟨v, rfl, v0, v1⟩, rfl⟩
    obtain ⟨V, rfl⟩ := Int.eq_ofNat_of_zero_le v0
    clear hrm1 hom
    obtain ⟨b, off, rfl, _⟩ := hrz.at hpos
    obtain ⟨A, hA⟩ : ∃ A : Nat, V % (zs.length + 1) = A := ⟨_, rfl⟩
    have hAl : A ≤ zs.length := by have := Nat.mod_lt V (show 0 < zs.length + 1 by omega); omega
    have hmod : (V : Int) % ((zs.length : Int) + 1) = (A : Int) := by rw [← hA]; simp
    clear hA
    by_cases hcA : cap = A
    · have e1 : A = zs.length := by omega
      subst hcA e1
      clear hcap hAl
      have hrx := hrz
      have hox := hoz
      have hry : Row w' (some ⟨b, off, none⟩) [] := Row.nil _ _
      have hoy : Octets [] := fun z hz => by cases hz
      have hall : zs ++ [] = zs := List.append_nil _
      go_wp2_with fail
      refine (sadl_any (some ⟨b, off, none⟩) zs.length zs _ hrz hoz (by omega)).mono ?_
      rintro e w' ⟨rfl, rfl⟩
      go_wp2_with fail
      refine (scrc0_any (some ⟨b, off, none⟩) zs.length zs _ hrz hoz (by omega)).mono ?_
      rintro e w' ⟨rfl, rfl⟩
      go_wp2_with fail
      refine (adl_first (some ⟨b, off, none⟩) zs.length zs zs.length rfl _ hrx hox (Nat.le_refl _) (by omega)).mono ?_
      rintro e w' ⟨rfl, rfl⟩
      go_wp2_with fail
      refine (adl_then zs zs (some ⟨b, off, none⟩) 0 [] 0 rfl hall _ hry hoy (Nat.le_refl _) (by simp)).mono ?_
      rintro e w' ⟨rfl, rfl⟩
      go_wp2_with fail
      refine (adl_first (some ⟨b, off, none⟩) zs.length zs zs.length rfl _ hrx hox (Nat.le_refl _) (by omega)).mono ?_
      rintro e w' ⟨rfl, rfl⟩
      go_wp2_with fail
      refine (adl_first (some ⟨b, off, none⟩) 0 [] 0 rfl _ hry hoy (Nat.le_refl _) (by simp)).mono ?_
      rintro e w' ⟨rfl, rfl⟩
      go_wp2_with fail
      refine (adl_joined zs [] zs 0 rfl hall (by omega) _).mono ?_
      rintro e w' ⟨rfl, rfl⟩
      go_wp2_with fail
      refine (crc_first (some ⟨b, off, none⟩) zs.length zs zs.length rfl _ hrx hox (by omega)).mono ?_
      rintro e w' ⟨rfl, rfl⟩
      go_wp2_with fail
      refine (crc_then zs zs hox (some ⟨b, off, none⟩) 0 [] 0 rfl hall _ hry hoy (by simp)).mono ?_
      rintro e w' ⟨rfl, rfl⟩
      go_wp2_with fail
      refine (crc_first (some ⟨b, off, none⟩) zs.length zs zs.length rfl _ hrx hox (by omega)).mono ?_
      rintro e w' ⟨rfl, rfl⟩
      go_wp2_with fail
      refine (crc_first (some ⟨b, off, none⟩) 0 [] 0 rfl _ hry hoy (by simp)).mono ?_
      rintro e w' ⟨rfl, rfl⟩
      go_wp2_with fail
      refine (crc_joined zs [] zs hox hoy 0 rfl hall (by omega) _).mono ?_
      rintro e w' ⟨rfl, rfl⟩
      go_wp2_with fail
      go_ret
      exact ⟨rfl, HB.out⟩
    · have hnx : (zs.take A).length = A := by rw [List.length_take]; omega
      have hrx := row_take hrz A
      have hox := octets_take hoz A
      have hcx : (zs.take A).length ≤ cap := by omega
      have hny : (zs.drop A).length = zs.length - A := List.length_drop ..
      have hry := row_drop hrz A
      have hoy := octets_drop hoz A
      have hcy : (zs.drop A).length ≤ cap - A := by omega
      have hall : zs.take A ++ zs.drop A = zs := List.take_append_drop _ _
      go_wp2_with fail
      refine (sadl_any (some ⟨b, off, none⟩) cap zs _ hrz hoz (by omega)).mono ?_
      rintro e w' ⟨rfl, rfl⟩
      go_wp2_with fail
      refine (scrc0_any (some ⟨b, off, none⟩) cap zs _ hrz hoz (by omega)).mono ?_
      rintro e w' ⟨rfl, rfl⟩
      go_wp2_with fail
      refine (adl_first (some ⟨b, off, none⟩) cap (zs.take A) A hnx _ hrx hox hcx (by omega)).mono ?_
      rintro e w' ⟨rfl, rfl⟩
      go_wp2_with fail
      refine (adl_then (zs.take A) zs (some ⟨b, off + A, none⟩) (cap - A) (zs.drop A) (zs.length - A) hny hall _ hry hoy hcy (by omega)).mono ?_
      rintro e w' ⟨rfl, rfl⟩
      go_wp2_with fail
      refine (adl_first (some ⟨b, off, none⟩) cap (zs.take A) A hnx _ hrx hox hcx (by omega)).mono ?_
      rintro e w' ⟨rfl, rfl⟩
      go_wp2_with fail
      refine (adl_first (some ⟨b, off + A, none⟩) (cap - A) (zs.drop A) (zs.length - A) hny _ hry hoy hcy (by omega)).mono ?_
      rintro e w' ⟨rfl, rfl⟩
      go_wp2_with fail
      refine (adl_joined (zs.take A) (zs.drop A) zs (zs.length - A) hny hall (by omega) _).mono ?_
      rintro e w' ⟨rfl, rfl⟩
      go_wp2_with fail
      refine (crc_first (some ⟨b, off, none⟩) cap (zs.take A) A hnx _ hrx hox (by omega)).mono ?_
      rintro e w' ⟨rfl, rfl⟩
      go_wp2_with fail
      refine (crc_then (zs.take A) zs hox (some ⟨b, off + A, none⟩) (cap - A) (zs.drop A) (zs.length - A) hny hall _ hry hoy (by omega)).mono ?_
      rintro e w' ⟨rfl, rfl⟩
      go_wp2_with fail
      refine (crc_first (some ⟨b, off, none⟩) cap (zs.take A) A hnx _ hrx hox (by omega)).mono ?_
      rintro e w' ⟨rfl, rfl⟩
      go_wp2_with fail
      refine (crc_first (some ⟨b, off + A, none⟩) (cap - A) (zs.drop A) (zs.length - A) hny _ hry hoy (by omega)).mono ?_
      rintro e w' ⟨rfl, rfl⟩
      go_wp2_with fail
      refine (crc_joined (zs.take A) (zs.drop A) zs hox hoy (zs.length - A) hny hall (by omega) _).mono ?_
      rintro e w' ⟨rfl, rfl⟩
      go_wp2_with fail
      go_ret
      exact ⟨rfl, HB.out⟩
  · have e : zs = [] := List.length_eq_zero_iff.mp (by omega)
    subst e
    have hry : Row w1 ao [] := Row.nil _ _
    have hoy : Octets [] := fun z hz => by cases hz
    have hall : ([] : List Int) ++ [] = [] := rfl
    clear hrm1 hom hrz hoz
    go_wp2_with fail
    refine (sadl_any ao cap [] _ hry hoy (by decide)).mono ?_
    rintro e w' ⟨rfl, rfl⟩
    go_wp2_with fail
    refine (scrc0_any ao cap [] _ hry hoy (by decide)).mono ?_
    rintro e w' ⟨rfl, rfl⟩
    go_wp2_with fail
    refine (adl_first ao cap [] 0 rfl _ hry hoy (Nat.zero_le _) (by decide)).mono ?_
    rintro e w' ⟨rfl, rfl⟩
    go_wp2_with fail
    refine (adl_then [] [] ao cap [] 0 rfl hall _ hry hoy (Nat.zero_le _) (by decide)).mono ?_
    rintro e w' ⟨rfl, rfl⟩
    go_wp2_with fail
    refine (adl_first ao cap [] 0 rfl _ hry hoy (Nat.zero_le _) (by decide)).mono ?_
    rintro e w' ⟨rfl, rfl⟩
    go_wp2_with fail
    refine (adl_first ao cap [] 0 rfl _ hry hoy (Nat.zero_le _) (by decide)).mono ?_
    rintro e w' ⟨rfl, rfl⟩
    go_wp2_with fail
    refine (adl_joined [] [] [] 0 rfl hall (by decide) _).mono ?_
    rintro e w' ⟨rfl, rfl⟩
    go_wp2_with fail
    refine (crc_first ao cap [] 0 rfl _ hry hoy (by decide)).mono ?_
    rintro e w' ⟨rfl, rfl⟩
    go_wp2_with fail
    refine (crc_then [] [] hoy ao cap [] 0 rfl hall _ hry hoy (by decide)).mono ?_
    rintro e w' ⟨rfl, rfl⟩
    go_wp2_with fail
    refine (crc_first ao cap [] 0 rfl _ hry hoy (by decide)).mono ?_
    rintro e w' ⟨rfl, rfl⟩
    go_wp2_with fail
    refine (crc_first ao cap [] 0 rfl _ hry hoy (by decide)).mono ?_
    rintro e w' ⟨rfl, rfl⟩
    go_wp2_with fail
    refine (crc_joined [] [] [] hoy hoy 0 rfl hall (by decide) _).mono ?_
    rintro e w' ⟨rfl, rfl⟩
    go_wp2_with fail
    go_ret
    exact ⟨rfl, HB.out⟩

end Go.Proofs.Ytmfacacpoajpgaa
