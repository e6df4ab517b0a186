import Derived.Test.YtmfacacpoajpgaaCut
namespace Go.Proofs.Ytmfacacpoajpgaa
open Go.RowKit
attribute [local go_sem ↓] Go.wp_at_zero Go.wp_at_succ

/-- A chunk: where its bytes lie, its capacity, its bytes. -/
abbrev Piece := Option Addr × Nat × List Int
def Piece.val (p : Piece) : Value := .slice p.1 p.2.2.length p.2.1
def Pieces (w : World) (own : Option Nat) (ps : List Piece) : Prop :=
  ∀ p ∈ ps, Row w p.1 p.2.2 ∧ (p.1 = none → p.2.2.length = 0 ∧ p.2.1 = 0) ∧ (∀ ad, p.1 = some ad → 0 < p.2.2.length → some ad.block ≠ own)
def flat (ps : List Piece) : List Int := (ps.map (fun p => p.2.2)).flatten

theorem owns_slice {w : World} {B e n : Nat} {v : Value} {xs : List Value} (h : w.ownsRow B e 1 v n xs) : ∃ oo oc, v = .slice oo n oc := by
  rcases h.2 with ⟨rfl, h0⟩ | ⟨g, cap, cur, rfl, _⟩
  · exact ⟨none, 0, by rw [h0]⟩
  · exact ⟨_, _, rfl⟩

theorem owns_base {w : World} {B e n : Nat} {v : Value} {xs : List Value} (h : w.ownsRow B e 1 v n xs) : ∀ g, v.ownBlock = some g → B ≤ g ∧ g < w.heap.size := by
  rcases h.2 with ⟨rfl, h0⟩ | ⟨g, cap, cur, rfl, hb, hg, _⟩
  · intro g e; cases e
  · intro g' e
    simp [Value.ownBlock] at e
    subst e
    refine ⟨hb, ?_⟩
    rcases Nat.lt_or_ge g w.heap.size with hlt | hge
    · exact hlt
    · rw [Array.getElem?_eq_none hge] at hg; cases hg

theorem Pieces.grown {w w' : World} {own own' row : Option Nat} {ps : List Piece} (h : Pieces w own ps) (hg : w.grownBy w' row) (hrow : row = none ∨ row = own ∨ ∃ g, row = some g ∧ w.heap.size ≤ g) (hown : own' = own ∨ ∃ g, own' = some g ∧ w.heap.size ≤ g) : Pieces w' own' ps := by
  intro p hp
  obtain ⟨h1, h2, h3⟩ := h p hp
  refine ⟨h1.grown0 hg ?_, h2, ?_⟩
  · intro ad e h0
    have hl := h1.lives ad e h0
    rcases hrow with rfl | rfl | ⟨g, rfl, hge⟩
    · simp
    · exact h3 ad e h0
    · simp; omega
  · intro ad e h0
    have hl := h1.lives ad e h0
    rcases hown with rfl | ⟨g, rfl, hge⟩
    · exact h3 ad e h0
    · simp; omega

theorem row_cut_if {w : World} {b off cap k : Nat} {zs : List Int} (h : Row w (some ⟨b, off, none⟩) zs) (hc : zs.length ≤ cap) : Row w (if cap = k then some ⟨b, off, none⟩ else some ⟨b, off + k, none⟩) (zs.drop k) := by
  intro i hi
  rw [List.length_drop] at hi
  obtain ⟨b', off', e, hcell⟩ := h (k + i) (by omega)
  simp only [Option.some.injEq, Addr.mk.injEq, and_true] at e
  obtain ⟨rfl, rfl⟩ := e
  rw [if_neg (by omega)]
  refine ⟨b, off + k, rfl, ?_⟩
  rw [Nat.add_assoc, hcell]
  simp [List.getD]

theorem row_take {w : World} {ao : Option Addr} {zs : List Int} (h : Row w ao zs) (k : Nat) : Row w ao (zs.take k) := by
  intro i hi
  rw [List.length_take] at hi
  obtain ⟨b, off, rfl, hc⟩ := h i (by omega)
  refine ⟨b, off, rfl, ?_⟩
  rw [hc]
  simp [List.getD, show i < k from by omega]

theorem owns_kept {w w' : World} {B e n : Nat} {v : Value} {xs : List Value} {row : Option Nat} (h : w.ownsRow B e 1 v n xs) (hg : w.grownBy w' row) (hne : ∀ g, v.ownBlock = some g → row ≠ some g) : w'.ownsRow B e 1 v n xs := by
  obtain ⟨oo, oc, rfl⟩ := owns_slice h
  refine World.ownsRow.kept h hg ?_
  cases oo with
  | none => exact .inl rfl
  | some ad => exact .inr (fun he => hne _ rfl he.symm)

theorem flat_snoc (ps : List Piece) (p : Piece) : flat (ps ++ [p]) = flat ps ++ p.2.2 := by simp [flat]

set_option maxRecDepth 100000 in
set_option maxHeartbeats 3200000 in
/-- laws.lwCut. -/
theorem lwCut_any (bo : Option Addr) (cap : Nat) (zs : List Int) (mo : Option Addr) (cm : Nat) (ms : List Int) (w : World) (hr : Row w bo zs) (hcap : zs.length ≤ cap) (hz : zs.length ≤ 1000) (hrm : Row w mo ms) (hom : Octets ms) :
    Calls Try.prog 20 #[.slice bo zs.length cap, .slice mo ms.length cm, .int .i64 1] w fun e w' => ∃ oo oc ps, e = .returned (.slice oo ps.length oc) ∧ w'.ownsRow w.heap.size 38 1 (.slice oo ps.length oc) ps.length (ps.map Piece.val) ∧ Pieces w' (blk oo) ps ∧ flat ps = zs ∧ ps.length ≤ 255 ∧ Below w.heap.size w w' := by
  obtain ⟨i0, hi, hz0, hz1, hz2⟩ := info_parts Try.info_u8s
  obtain ⟨j0, hj, hy0, hy1, hy2⟩ := info_parts Try.info_chunk
  have ho0 : (w.alloc (.cells #[] 38)).ownsRow w.heap.size 38 1 (.slice (some ⟨w.heap.size, 0, none⟩) 0 0) 0 [] := own1 w _ _ _ (Nat.le_refl _) rfl
  have hb0 : Below w.heap.size w (w.alloc (.cells #[] 38)) := (Below.refl _ _).alloc (Nat.le_refl _) _
  have hr0 := hr.below hb0
  have HLV : Hid (∀ ad, bo = some ad → 0 < zs.length → ad.block < w.heap.size) := hr.lives
  have HRM : Hid (Row w mo ms) := hrm
  clear hr hrm
  go_enter Try.func20, Try.ntmps20
  go_wp2_with fail
  go_loopw [0, 7, 8] (fun b out k wr => ∃ ps bo' cap' ys oo oc, b = .slice bo' ys.length cap' ∧ out = .slice oo ps.length oc ∧ k = .int .i64 ps.length ∧ ys.length ≤ cap' ∧ Row wr bo' ys ∧ Hid (∀ ad, bo' = some ad → 0 < ys.length → ad.block < w.heap.size) ∧ ps.length ≤ 255 ∧ Hid (0 < ys.length → ps.length ≤ 254) ∧ wr.ownsRow w.heap.size 38 1 (.slice oo ps.length oc) ps.length (ps.map Piece.val) ∧ Pieces wr (blk oo) ps ∧ Hid (flat ps ++ ys = zs) ∧ Below w.heap.size w wr) (fun _ _ k _ => 255 - (intOf k).toNat)
  case atStart => exact ⟨[], bo, cap, zs, some ⟨w.heap.size, 0, none⟩, 0, rfl, rfl, rfl, hcap, hr0, HLV.out, Nat.zero_le _, fun _ => Nat.zero_le _, ho0, (fun p hp => by cases hp), rfl, hb0⟩
  case round =>
    clear hr0 hcap ho0 hb0
    obtain ⟨ps, bo', cap', ys, oo, oc, rfl, rfl, rfl, hcap, hr, hlv, hps, hps4, ho, hpc, hfl, hbel⟩ := hrel
    by_cases hpos : 0 < ys.length
    · have h254 := hps4.out hpos
      have hyz : ys.length ≤ 1000 := by have := congrArg List.length hfl.out; simp at this; omega
      obtain ⟨b, off, rfl, _⟩ := hr.at hpos
      have hblt := hlv.out _ rfl hpos
      have hrm := HRM.out.below hbel
      go_wp2_with fail
      refine (lwAt_any mo cm ms (1 + ps.length) wr hrm hom (by omega)).mono ?_
      rintro e w' ⟨⟨x, rfl, hx⟩, rfl⟩
      clear hrm
      obtain ⟨N, hN⟩ : ∃ N : Nat, x % 9 = N := ⟨_, rfl⟩
      have hmod : (x : Int) % 9 = (N : Int) := by rw [← hN]; simp
      have hN9 : N < 9 := by omega
      clear hN
      by_cases h1 : ys.length < N
      · obtain ⟨Z, hZ⟩ : ∃ Z, ys = Z := ⟨_, rfl⟩
        have HZL : Hid (Z.length = ys.length) := by rw [← hZ]; exact (rfl)
        have HZR : Hid (Z ++ [] = ys) := by rw [← hZ]; exact (List.append_nil _)
        have hrZ : Row w' (some ⟨b, off, none⟩) Z := by rw [← hZ]; exact (hr)
        have hZ1 : Z.length ≤ 1000 := by have := HZL.out; omega
        clear hZ
        have hal : w'.grownBy (w'.alloc (.cells #[] 5)) (some w'.heap.size) := World.grownBy_alloc w' _ _
        have ho1 : OwnsB 5 w'.heap.size (w'.alloc (.cells #[] 5)) (some ⟨w'.heap.size, 0, none⟩) 0 [] := own1 w' _ _ _ (Nat.le_refl _) rfl
        have hbs := hbel.size
        have hrp : Row (w'.alloc (.cells #[] 5)) (some ⟨b, off, none⟩) Z := hrZ.grown hal (by intro ad e; simp only [Option.some.injEq] at e; subst e; simp; omega)
        go_wp2_with (at_builtin; refine wpList_append_row _ rfl _ _ 22 rfl w'.heap.size 5 i0 (.int .u8 0) 1 Try.underlying22 hi hz0 hz1 hz2 rfl (.slice (some ⟨w'.heap.size, 0, none⟩) 0 0) 0 [] rfl ho1 (some ⟨b, off, none⟩) cap' Z (congrArg (fun n => Value.slice (some ⟨b, off, none⟩) n cap') HZL.out.symm) hrp (fun e => by cases e) (by unfold maxLen; omega) (by omega) (by simp) ?_)
        intro v1 w2 hown hgrow hat
        obtain ⟨ao1, cap1, e1, ho2⟩ := OwnsB.of hown
        subst e1
        have hg2 : w'.grownBy w2 (some w'.heap.size) := grownBy_trans hal hgrow
        have hm2 := ho2.mine
        have hob := owns_base ho
        have hoob : (Value.slice oo ps.length oc).ownBlock = blk oo := by cases oo <;> rfl
        rw [hoob] at hob
        have hpc2 : Pieces w2 (blk oo) (ps ++ [(ao1, cap1, Z)]) := by
          intro p hp
          rcases List.mem_append.1 hp with h | h
          · exact (hpc.grown hg2 (.inr (.inr ⟨_, rfl, Nat.le_refl _⟩)) (.inl rfl)) p h
          · simp only [List.mem_singleton] at h
            subst h
            refine ⟨hm2.row, hm2.nil_len, ?_⟩
            intro ad e _ he
            have h1 := (hm2.lies ad e).1
            have h2 := hob _ he.symm
            omega
        have hr2 : Row w2 (some ⟨b, off, none⟩) ys := hr.grown hg2 (by intro ad e; simp only [Option.some.injEq] at e; subst e; simp; omega)
        have hbel2 : Below w.heap.size w w2 := hbel.grown hg2 (by omega) (by intro k e; simp at e; omega)
        have ho3 : w2.ownsRow w.heap.size 38 1 (.slice oo ps.length oc) ps.length (ps.map Piece.val) := owns_kept ho hg2 (by rw [hoob]; intro g e he; have := hob g e; simp at he; omega)
        have hal3 : w2.grownBy (w2.alloc (.cells #[.slice ao1 Z.length cap1] 38)) none := World.grownBy_alloc w2 _ _
        have ho4 := owns_kept ho3 hal3 (by intro g e he; cases he)
        have hpc3 := hpc2.grown (own' := blk oo) hal3 (.inl rfl) (.inl rfl)
        have hr3 := hr2.grown hal3 (by simp)
        have hbel3 := hbel2.grown hal3 (by have := hbel2.size; omega) (by intro k e; cases e)
        have hcy : (w2.alloc (.cells #[.slice ao1 Z.length cap1] 38)).cell? ((⟨w2.heap.size, 0, none⟩ : Addr).add 0) = some (.slice ao1 Z.length cap1) := by simp [go_sem, Addr.add_lit]
        have hsz2 : w'.heap.size ≤ w2.heap.size := hg2.size
        clear ho hpc hr hbel hal ho1 hrp hrZ hown hgrow hat ho2 hg2 hpc2 hr2 hbel2 ho3 hal3
        go_wp2_with (at_builtin; refine wpList_append_one _ rfl _ _ 32 rfl w.heap.size 38 j0 (.agg #[.slice none 0 0]) 24 Try.underlying32 hj hy0 hy1 hy2 rfl (.slice oo ps.length oc) ps.length (ps.map Piece.val) rfl ho4 ⟨w2.heap.size, 0, none⟩ 1 (.slice ao1 Z.length cap1) rfl hcy rfl (by unfold maxLen; omega) (by omega) (by simp; omega) ?_)
        intro v3 w4 hown hgrow hat
        obtain ⟨oo', oc', e3⟩ := owns_slice hown
        subst e3
        have hoo' : (Value.slice oo' (ps.length + 1) oc').ownBlock = blk oo' := by cases oo' <;> rfl
        (try rw [hoob] at hgrow)
        (try rw [hoob] at hat)
        rw [hoo'] at hat
        have hpc4 := hpc3.grown (own' := blk oo') hgrow (.inr (.inl rfl)) (by rcases hat with h | h; exact .inl h; exact .inr ⟨_, h, by simp⟩)
        have hr4 := hr3.grown hgrow (by intro ad e he; simp only [Option.some.injEq] at e; subst e; exact absurd (hob b he.symm).1 (by omega))
        have hbel4 := hbel3.grown hgrow (by have := hbel3.size; omega) (fun k e => (hob k e).1)
        have hmap : ps.map Piece.val ++ [Value.slice ao1 Z.length cap1] = (ps ++ [(ao1, cap1, Z)]).map Piece.val := by simp [Piece.val]
        rw [hmap] at hown
        have hfl4 : Hid (flat (ps ++ [(ao1, cap1, Z)]) ++ [] = zs) := by
          show flat (ps ++ [(ao1, cap1, Z)]) ++ [] = zs
          rw [flat_snoc, ← hfl.out, List.append_assoc, HZR.out]
        have hrR := row_cut_if (k := ys.length) hr4 hcap
        clear hpc3 hr3 hbel3 ho4 hcy hgrow hat hmap hr4
        go_wp2_with fail
        go_roundw
        case rel =>
          have hpl : (ps ++ [(ao1, cap1, Z)]).length = ps.length + 1 := by simp
          exact ⟨ps ++ [(ao1, cap1, Z)], _, _, [], oo', oc', rfl, by rw [hpl], by rw [hpl]; go_num, Nat.zero_le _, Row.nil _ _, (fun _ _ h => absurd h (by simp)), by rw [hpl]; omega, (fun h => absurd h (by simp)), by rw [hpl]; exact hown, hpc4, hfl4.out, hbel4⟩
        case measure => simp [intOf]; omega
      · by_cases h2 : ps.length = 254
        · have hq : ((ps.length : Int) == 254) = true := by simp; omega
          have h2a : 254 ≤ ps.length := by omega
          clear h2
          obtain ⟨Z, hZ⟩ : ∃ Z, ys = Z := ⟨_, rfl⟩
          have HZL : Hid (Z.length = ys.length) := by rw [← hZ]; exact (rfl)
          have HZR : Hid (Z ++ [] = ys) := by rw [← hZ]; exact (List.append_nil _)
          have hrZ : Row w' (some ⟨b, off, none⟩) Z := by rw [← hZ]; exact (hr)
          have hZ1 : Z.length ≤ 1000 := by have := HZL.out; omega
          clear hZ
          have hal : w'.grownBy (w'.alloc (.cells #[] 5)) (some w'.heap.size) := World.grownBy_alloc w' _ _
          have ho1 : OwnsB 5 w'.heap.size (w'.alloc (.cells #[] 5)) (some ⟨w'.heap.size, 0, none⟩) 0 [] := own1 w' _ _ _ (Nat.le_refl _) rfl
          have hbs := hbel.size
          have hrp : Row (w'.alloc (.cells #[] 5)) (some ⟨b, off, none⟩) Z := hrZ.grown hal (by intro ad e; simp only [Option.some.injEq] at e; subst e; simp; omega)
          go_wp2_with (at_builtin; refine wpList_append_row _ rfl _ _ 22 rfl w'.heap.size 5 i0 (.int .u8 0) 1 Try.underlying22 hi hz0 hz1 hz2 rfl (.slice (some ⟨w'.heap.size, 0, none⟩) 0 0) 0 [] rfl ho1 (some ⟨b, off, none⟩) cap' Z (congrArg (fun n => Value.slice (some ⟨b, off, none⟩) n cap') HZL.out.symm) hrp (fun e => by cases e) (by unfold maxLen; omega) (by omega) (by simp) ?_)
          intro v1 w2 hown hgrow hat
          obtain ⟨ao1, cap1, e1, ho2⟩ := OwnsB.of hown
          subst e1
          have hg2 : w'.grownBy w2 (some w'.heap.size) := grownBy_trans hal hgrow
          have hm2 := ho2.mine
          have hob := owns_base ho
          have hoob : (Value.slice oo ps.length oc).ownBlock = blk oo := by cases oo <;> rfl
          rw [hoob] at hob
          have hpc2 : Pieces w2 (blk oo) (ps ++ [(ao1, cap1, Z)]) := by
            intro p hp
            rcases List.mem_append.1 hp with h | h
            · exact (hpc.grown hg2 (.inr (.inr ⟨_, rfl, Nat.le_refl _⟩)) (.inl rfl)) p h
            · simp only [List.mem_singleton] at h
              subst h
              refine ⟨hm2.row, hm2.nil_len, ?_⟩
              intro ad e _ he
              have h1 := (hm2.lies ad e).1
              have h2 := hob _ he.symm
              omega
          have hr2 : Row w2 (some ⟨b, off, none⟩) ys := hr.grown hg2 (by intro ad e; simp only [Option.some.injEq] at e; subst e; simp; omega)
          have hbel2 : Below w.heap.size w w2 := hbel.grown hg2 (by omega) (by intro k e; simp at e; omega)
          have ho3 : w2.ownsRow w.heap.size 38 1 (.slice oo ps.length oc) ps.length (ps.map Piece.val) := owns_kept ho hg2 (by rw [hoob]; intro g e he; have := hob g e; simp at he; omega)
          have hal3 : w2.grownBy (w2.alloc (.cells #[.slice ao1 Z.length cap1] 38)) none := World.grownBy_alloc w2 _ _
          have ho4 := owns_kept ho3 hal3 (by intro g e he; cases he)
          have hpc3 := hpc2.grown (own' := blk oo) hal3 (.inl rfl) (.inl rfl)
          have hr3 := hr2.grown hal3 (by simp)
          have hbel3 := hbel2.grown hal3 (by have := hbel2.size; omega) (by intro k e; cases e)
          have hcy : (w2.alloc (.cells #[.slice ao1 Z.length cap1] 38)).cell? ((⟨w2.heap.size, 0, none⟩ : Addr).add 0) = some (.slice ao1 Z.length cap1) := by simp [go_sem, Addr.add_lit]
          have hsz2 : w'.heap.size ≤ w2.heap.size := hg2.size
          clear ho hpc hr hbel hal ho1 hrp hrZ hown hgrow hat ho2 hg2 hpc2 hr2 hbel2 ho3 hal3
          go_wp2_with (at_builtin; refine wpList_append_one _ rfl _ _ 32 rfl w.heap.size 38 j0 (.agg #[.slice none 0 0]) 24 Try.underlying32 hj hy0 hy1 hy2 rfl (.slice oo ps.length oc) ps.length (ps.map Piece.val) rfl ho4 ⟨w2.heap.size, 0, none⟩ 1 (.slice ao1 Z.length cap1) rfl hcy rfl (by unfold maxLen; omega) (by omega) (by simp; omega) ?_)
          intro v3 w4 hown hgrow hat
          obtain ⟨oo', oc', e3⟩ := owns_slice hown
          subst e3
          have hoo' : (Value.slice oo' (ps.length + 1) oc').ownBlock = blk oo' := by cases oo' <;> rfl
          (try rw [hoob] at hgrow)
          (try rw [hoob] at hat)
          rw [hoo'] at hat
          have hpc4 := hpc3.grown (own' := blk oo') hgrow (.inr (.inl rfl)) (by rcases hat with h | h; exact .inl h; exact .inr ⟨_, h, by simp⟩)
          have hr4 := hr3.grown hgrow (by intro ad e he; simp only [Option.some.injEq] at e; subst e; exact absurd (hob b he.symm).1 (by omega))
          have hbel4 := hbel3.grown hgrow (by have := hbel3.size; omega) (fun k e => (hob k e).1)
          have hmap : ps.map Piece.val ++ [Value.slice ao1 Z.length cap1] = (ps ++ [(ao1, cap1, Z)]).map Piece.val := by simp [Piece.val]
          rw [hmap] at hown
          have hfl4 : Hid (flat (ps ++ [(ao1, cap1, Z)]) ++ [] = zs) := by
            show flat (ps ++ [(ao1, cap1, Z)]) ++ [] = zs
            rw [flat_snoc, ← hfl.out, List.append_assoc, HZR.out]
          have hrR := row_cut_if (k := ys.length) hr4 hcap
          clear hpc3 hr3 hbel3 ho4 hcy hgrow hat hmap hr4
          go_wp2_with fail
          go_roundw
          case rel =>
            have hpl : (ps ++ [(ao1, cap1, Z)]).length = ps.length + 1 := by simp
            exact ⟨ps ++ [(ao1, cap1, Z)], _, _, [], oo', oc', rfl, by rw [hpl], by rw [hpl]; go_num, Nat.zero_le _, Row.nil _ _, (fun _ _ h => absurd h (by simp)), by rw [hpl]; omega, (fun h => absurd h (by simp)), by rw [hpl]; exact hown, hpc4, hfl4.out, hbel4⟩
          case measure => simp [intOf]; omega
        · obtain ⟨Z, hZ⟩ : ∃ Z, ys.take N = Z := ⟨_, rfl⟩
          have HZL : Hid (Z.length = N) := by show Z.length = N; rw [← hZ, List.length_take]; omega
          have HZR : Hid (Z ++ (ys.drop N) = ys) := by rw [← hZ]; exact (List.take_append_drop N ys)
          have hrZ : Row w' (some ⟨b, off, none⟩) Z := by rw [← hZ]; exact (row_take hr N)
          have hZ1 : Z.length ≤ 1000 := by have := HZL.out; omega
          clear hZ
          have hal : w'.grownBy (w'.alloc (.cells #[] 5)) (some w'.heap.size) := World.grownBy_alloc w' _ _
          have ho1 : OwnsB 5 w'.heap.size (w'.alloc (.cells #[] 5)) (some ⟨w'.heap.size, 0, none⟩) 0 [] := own1 w' _ _ _ (Nat.le_refl _) rfl
          have hbs := hbel.size
          have hrp : Row (w'.alloc (.cells #[] 5)) (some ⟨b, off, none⟩) Z := hrZ.grown hal (by intro ad e; simp only [Option.some.injEq] at e; subst e; simp; omega)
          go_wp2_with (at_builtin; refine wpList_append_row _ rfl _ _ 22 rfl w'.heap.size 5 i0 (.int .u8 0) 1 Try.underlying22 hi hz0 hz1 hz2 rfl (.slice (some ⟨w'.heap.size, 0, none⟩) 0 0) 0 [] rfl ho1 (some ⟨b, off, none⟩) cap' Z (congrArg (fun n => Value.slice (some ⟨b, off, none⟩) n cap') HZL.out.symm) hrp (fun e => by cases e) (by unfold maxLen; omega) (by omega) (by simp) ?_)
          intro v1 w2 hown hgrow hat
          obtain ⟨ao1, cap1, e1, ho2⟩ := OwnsB.of hown
          subst e1
          have hg2 : w'.grownBy w2 (some w'.heap.size) := grownBy_trans hal hgrow
          have hm2 := ho2.mine
          have hob := owns_base ho
          have hoob : (Value.slice oo ps.length oc).ownBlock = blk oo := by cases oo <;> rfl
          rw [hoob] at hob
          have hpc2 : Pieces w2 (blk oo) (ps ++ [(ao1, cap1, Z)]) := by
            intro p hp
            rcases List.mem_append.1 hp with h | h
            · exact (hpc.grown hg2 (.inr (.inr ⟨_, rfl, Nat.le_refl _⟩)) (.inl rfl)) p h
            · simp only [List.mem_singleton] at h
              subst h
              refine ⟨hm2.row, hm2.nil_len, ?_⟩
              intro ad e _ he
              have h1 := (hm2.lies ad e).1
              have h2 := hob _ he.symm
              omega
          have hr2 : Row w2 (some ⟨b, off, none⟩) ys := hr.grown hg2 (by intro ad e; simp only [Option.some.injEq] at e; subst e; simp; omega)
          have hbel2 : Below w.heap.size w w2 := hbel.grown hg2 (by omega) (by intro k e; simp at e; omega)
          have ho3 : w2.ownsRow w.heap.size 38 1 (.slice oo ps.length oc) ps.length (ps.map Piece.val) := owns_kept ho hg2 (by rw [hoob]; intro g e he; have := hob g e; simp at he; omega)
          have hal3 : w2.grownBy (w2.alloc (.cells #[.slice ao1 Z.length cap1] 38)) none := World.grownBy_alloc w2 _ _
          have ho4 := owns_kept ho3 hal3 (by intro g e he; cases he)
          have hpc3 := hpc2.grown (own' := blk oo) hal3 (.inl rfl) (.inl rfl)
          have hr3 := hr2.grown hal3 (by simp)
          have hbel3 := hbel2.grown hal3 (by have := hbel2.size; omega) (by intro k e; cases e)
          have hcy : (w2.alloc (.cells #[.slice ao1 Z.length cap1] 38)).cell? ((⟨w2.heap.size, 0, none⟩ : Addr).add 0) = some (.slice ao1 Z.length cap1) := by simp [go_sem, Addr.add_lit]
          have hsz2 : w'.heap.size ≤ w2.heap.size := hg2.size
          clear ho hpc hr hbel hal ho1 hrp hrZ hown hgrow hat ho2 hg2 hpc2 hr2 hbel2 ho3 hal3
          go_wp2_with (at_builtin; refine wpList_append_one _ rfl _ _ 32 rfl w.heap.size 38 j0 (.agg #[.slice none 0 0]) 24 Try.underlying32 hj hy0 hy1 hy2 rfl (.slice oo ps.length oc) ps.length (ps.map Piece.val) rfl ho4 ⟨w2.heap.size, 0, none⟩ 1 (.slice ao1 Z.length cap1) rfl hcy rfl (by unfold maxLen; omega) (by omega) (by simp; omega) ?_)
          intro v3 w4 hown hgrow hat
          obtain ⟨oo', oc', e3⟩ := owns_slice hown
          subst e3
          have hoo' : (Value.slice oo' (ps.length + 1) oc').ownBlock = blk oo' := by cases oo' <;> rfl
          (try rw [hoob] at hgrow)
          (try rw [hoob] at hat)
          rw [hoo'] at hat
          have hpc4 := hpc3.grown (own' := blk oo') hgrow (.inr (.inl rfl)) (by rcases hat with h | h; exact .inl h; exact .inr ⟨_, h, by simp⟩)
          have hr4 := hr3.grown hgrow (by intro ad e he; simp only [Option.some.injEq] at e; subst e; exact absurd (hob b he.symm).1 (by omega))
          have hbel4 := hbel3.grown hgrow (by have := hbel3.size; omega) (fun k e => (hob k e).1)
          have hmap : ps.map Piece.val ++ [Value.slice ao1 Z.length cap1] = (ps ++ [(ao1, cap1, Z)]).map Piece.val := by simp [Piece.val]
          rw [hmap] at hown
          have hfl4 : Hid (flat (ps ++ [(ao1, cap1, Z)]) ++ (ys.drop N) = zs) := by
            show flat (ps ++ [(ao1, cap1, Z)]) ++ (ys.drop N) = zs
            rw [flat_snoc, ← hfl.out, List.append_assoc, HZR.out]
          have hrR := row_cut_if (k := N) hr4 hcap
          clear hpc3 hr3 hbel3 ho4 hcy hgrow hat hmap hr4
          go_wp2_with fail
          go_roundw
          case rel =>
            have hpl : (ps ++ [(ao1, cap1, Z)]).length = ps.length + 1 := by simp
            have e5 : (ys.drop N).length = ys.length - N := List.length_drop ..
            have hlast : ∀ ad, (if cap' = N then some (⟨b, off, none⟩ : Addr) else some ⟨b, off + N, none⟩) = some ad → ad.block < w.heap.size := by
              intro ad e
              split at e <;> (simp only [Option.some.injEq] at e; subst e; exact hblt)
            exact ⟨ps ++ [(ao1, cap1, Z)], _, _, ys.drop N, oo', oc', by rw [e5], by rw [hpl], by rw [hpl]; go_num, by rw [e5]; omega, hrR, (fun ad e _ => hlast ad e), by rw [hpl]; omega, (fun _ => by rw [hpl]; omega), by rw [hpl]; exact hown, hpc4, hfl4.out, hbel4⟩
          case measure => simp [intOf]; omega
    · have e : ys = [] := List.length_eq_zero_iff.mp (by omega)
      subst e
      have hfl2 : flat ps = zs := by have := hfl.out; rwa [List.append_nil] at this
      go_wp2_with fail
      go_ret
      exact ⟨oo, oc, ps, rfl, ho, hpc, hfl2, hps, hbel⟩
end Go.Proofs.Ytmfacacpoajpgaa
