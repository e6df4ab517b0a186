import Derived.Test.YtmfacacpoajpgadVMd
namespace Go.Proofs.Ytmfacacpoajpgad
open Go.RowKit
attribute [local go_sem ↓] Go.wp_at_zero Go.wp_at_succ
set_option linter.unusedVariables false

set_option maxRecDepth 100000 in
set_option maxHeartbeats 6400000 in
theorem law_vm_big (f mt xf os sz : Int) (ae an ac : Option Addr) (ne ce nn cn nc cc : Nat) (w : World) (le : ne ≤ 9223372036854775807) (ln : nn ≤ 9223372036854775807) (lc : nc ≤ 9223372036854775807) (hbig : 1048576 < ne + nn + nc) :
    Calls Try.prog 4 #[.agg #[.int .i64 f, .int .i64 mt, .int .i64 xf, .int .i64 os, .slice ae ne ce, .slice an nn cn, .slice ac nc cc, .int .i64 sz]] w fun e w' => e = .returned (.bool true) ∧ Below w.heap.size w w' := by
  go_enter Try.func4, Try.ntmps4
  go_wp2_with fail
  refine (szMember_any f mt xf os sz ae an ac ne ce nn cn nc cc _ le ln lc).mono ?_
  rintro e w1 ⟨⟨r, rfl, hr1, hr2⟩, hb1⟩
  have hr : r < 0 := by
    rcases Int.lt_or_le r 0 with h | h
    · exact h
    · have := hr2 h
      omega
  obtain ⟨rfl, _⟩ := hr1 hr
  clear hr1 hr2 hr
  go_wp2_with fail
  go_ret
  exact ⟨rfl, ((Below.refl _ _).alloc (Nat.le_refl _) _).trans (hb1.mono (by simp))⟩
set_option maxRecDepth 100000 in
set_option maxHeartbeats 6400000 in
theorem law_vm (f mt xf os sz : Int) (ae an ac : Option Addr) (ce cn cc : Nat) (ze zn zc : List Int) (w : World) (he : Row w ae ze) (hn : Row w an zn) (hc : Row w ac zc) (hT : ze.length + zn.length + zc.length ≤ 1048576) :
    Calls Try.prog 4 #[.agg #[.int .i64 f, .int .i64 mt, .int .i64 xf, .int .i64 os, .slice ae ze.length ce, .slice an zn.length cn, .slice ac zc.length cc, .int .i64 sz]] w fun e w' => e = .returned (.bool true) ∧ Below w.heap.size w w' := by
  have le : ze.length ≤ 1048576 := by omega
  have ln : zn.length ≤ 1048576 := by omega
  have lc : zc.length ≤ 1048576 := by omega
  have A0 := hideV (mb_new w f mt xf os sz (.slice ae ze.length ce) (.slice an zn.length cn) (.slice ac zc.length cc) 37)
  have L0 : Hid (Below w.heap.size w (w.alloc (.cells #[.int .i64 f, .int .i64 mt, .int .i64 xf, .int .i64 os, .slice ae ze.length ce, .slice an zn.length cn, .slice ac zc.length cc, .int .i64 sz] 37))) := (Below.refl _ _).alloc (Nat.le_refl _) _
  have HR := hideV (And.intro he (And.intro hn hc))
  clear he hn hc
  go_enter Try.func4, Try.ntmps4
  go_wp2_with fail
  refine (szMember_any f mt xf os sz ae an ac ze.length ce zn.length cn zc.length cc _ (by omega) (by omega) (by omega)).mono ?_
  rintro e w1 ⟨⟨r, rfl, hr1, hr2⟩, hb1⟩
  have hr : 0 ≤ r := by
    rcases Int.lt_or_le r 0 with h | h
    · have := (hr1 h).2
      omega
    · exact h
  have A1 := hideV (A0.out.below hb1)
  have L1 := hideV (L0.out.trans (hb1.mono L0.out.size))
  clear hr1 hr2 hb1 hT
  obtain ⟨c0, c1, c2, c3, c4, c5, c6, c7⟩ := A1.out
  have z1 := A1.out.lt
  go_wp2_with fail
  refine (toMember_any f mt xf os sz ae an ac ce cn cc ze zn zc w1 (HR.out.1.below L1.out) (HR.out.2.1.below L1.out) (HR.out.2.2.below L1.out) le ln lc).mono ?_
  rintro e w2 ⟨ge, gn, gc, rfl, r1, r2, r3, hb2⟩
  have A2 := hideV (A1.out.below hb2)
  have L2 := hideV (L1.out.trans (hb2.mono L1.out.size))
  have HS := hideV (svm_any f mt xf os sz (some ⟨ge, 0, none⟩) (some ⟨gn, 0, none⟩) (some ⟨gc, 0, none⟩) ze.length zn.length zc.length ze zn zc w2 r1 r2 r3 le ln lc)
  clear r1 r2 r3 hb2 c0 c1 c2 c3 c4 c5 c6 c7 z1
  go_wp2_with fail
  refine HS.out.mono ?_
  rintro e w3 ⟨rfl, hb3⟩
  have A3 := hideV (A2.out.below hb3)
  have L3 := hideV (L2.out.trans (hb3.mono L2.out.size))
  clear hb3 HS
  obtain ⟨c0, c1, c2, c3, c4, c5, c6, c7⟩ := A3.out
  have z3 := A3.out.lt
  go_wp2_with fail
  refine (toMember_any f mt xf os sz ae an ac ce cn cc ze zn zc w3 (HR.out.1.below L3.out) (HR.out.2.1.below L3.out) (HR.out.2.2.below L3.out) le ln lc).mono ?_
  rintro e w4 ⟨ge, gn, gc, rfl, r1, r2, r3, hb4⟩
  have b5 : Below w4.heap.size w4 (w4.alloc (.cells #[.int .i64 f, .int .i64 mt, .int .i64 xf, .int .i64 os, .slice (some ⟨ge, 0, none⟩) ze.length ze.length, .slice (some ⟨gn, 0, none⟩) zn.length zn.length, .slice (some ⟨gc, 0, none⟩) zc.length zc.length, .int .i64 sz] 40)) := (Below.refl _ _).alloc (Nat.le_refl _) _
  have A5 := hideV ((A3.out.below hb4).below b5)
  have L4 := hideV (L3.out.trans (hb4.mono L3.out.size))
  have L5 := hideV (L4.out.trans (b5.mono L4.out.size))
  have X5 := hideV (mb_new w4 f mt xf os sz (.slice (some ⟨ge, 0, none⟩) ze.length ze.length) (.slice (some ⟨gn, 0, none⟩) zn.length zn.length) (.slice (some ⟨gc, 0, none⟩) zc.length zc.length) 40)
  have Q1 := hideV (r1.below b5)
  have Q2 := hideV (r2.below b5)
  have Q3 := hideV (r3.below b5)
  have hp4 : w.heap.size < w4.heap.size := (A3.out.below hb4).lt
  clear hb4 b5 r1 r2 r3 c0 c1 c2 c3 c4 c5 c6 c7 z3
  go_upto_region 7 with fail
  obtain ⟨p, hp⟩ : ∃ p, w4.heap.size = p := ⟨_, rfl⟩
  generalize w4.alloc (.cells #[.int .i64 f, .int .i64 mt, .int .i64 xf, .int .i64 os, .slice (some ⟨ge, 0, none⟩) ze.length ze.length, .slice (some ⟨gn, 0, none⟩) zn.length zn.length, .slice (some ⟨gc, 0, none⟩) zc.length zc.length, .int .i64 sz] 40) = w5 at *
  rw [hp] at X5 hp4 ⊢
  clear hp
  obtain ⟨x0, x1, x2, x3, x4, x5, x6, x7⟩ := X5.out
  have z5 := X5.out.lt
  have HI := hideV (ivm_any f mt xf os sz (some ⟨ge, 0, none⟩) (some ⟨gn, 0, none⟩) (some ⟨gc, 0, none⟩) ze.length zn.length zc.length ze zn zc w5 Q1.out Q2.out Q3.out le ln lc)
  go_wp2_with fail
  refine HI.out.mono ?_
  rintro e w6 ⟨rfl, hb6⟩
  have hne : (vmem f mt xf os sz ze zn zc != vmem f mt xf os sz ze zn zc) = false := by simp
  have A6 := hideV (A5.out.below hb6)
  have X6 := hideV (X5.out.below hb6)
  have L6 := hideV (L5.out.trans (hb6.mono L5.out.size))
  have S1 := hideV (Q1.out.below hb6)
  have S2 := hideV (Q2.out.below hb6)
  have S3 := hideV (Q3.out.below hb6)
  clear hb6 Q1 Q2 Q3 A5 X5 L5 HI x0 x1 x2 x3 x4 x5 x6 x7 z5
  generalize vmem f mt xf os sz ze zn zc = R at *
  obtain ⟨c0, c1, c2, c3, c4, c5, c6, c7⟩ := A6.out
  obtain ⟨x0, x1, x2, x3, x4, x5, x6, x7⟩ := X6.out
  have zA6 := A6.out.lt
  have zX6 := X6.out.lt
  go_wp2_with fail
  go_region_held3 (fun w' => w'.cell? ⟨w.heap.size, 0, none⟩ = some (.int .i64 f) ∧ w'.cell? ⟨w.heap.size, 1, none⟩ = some (.int .i64 mt) ∧ w'.cell? ⟨w.heap.size, 2, none⟩ = some (.int .i64 xf) ∧ w'.cell? ⟨w.heap.size, 3, none⟩ = some (.int .i64 os) ∧ w'.cell? ⟨w.heap.size, 4, none⟩ = some (.slice ae ze.length ce) ∧ w'.cell? ⟨w.heap.size, 5, none⟩ = some (.slice an zn.length cn) ∧ w'.cell? ⟨w.heap.size, 6, none⟩ = some (.slice ac zc.length cc) ∧ w'.cell? ⟨w.heap.size, 7, none⟩ = some (.int .i64 sz) ∧ w'.cell? ⟨p, 0, none⟩ = some (.int .i64 f) ∧ w'.cell? ⟨p, 1, none⟩ = some (.int .i64 mt) ∧ w'.cell? ⟨p, 2, none⟩ = some (.int .i64 xf) ∧ w'.cell? ⟨p, 3, none⟩ = some (.int .i64 os) ∧ w'.cell? ⟨p, 4, none⟩ = some (.slice (some ⟨ge, 0, none⟩) ze.length ze.length) ∧ w'.cell? ⟨p, 5, none⟩ = some (.slice (some ⟨gn, 0, none⟩) zn.length zn.length) ∧ w'.cell? ⟨p, 6, none⟩ = some (.slice (some ⟨gc, 0, none⟩) zc.length zc.length) ∧ w'.cell? ⟨p, 7, none⟩ = some (.int .i64 sz))
    (first | (refine ⟨?_, ?_, ?_, ?_, ?_, ?_, ?_, ?_, ?_, ?_, ?_, ?_, ?_, ?_, ?_, ?_⟩ <;> assumption) | (go_keep; done))
    (first | (go_at_call 16; refine (toMember_any f mt xf os sz ae an ac ce cn cc ze zn zc _ (HR.out.1.below L6.out.drew) (HR.out.2.1.below L6.out.drew) (HR.out.2.2.below L6.out.drew) le ln lc).mono ?_; rintro e w7 ⟨he, hn, hc, rfl, q1, q2, q3, hb7⟩; obtain ⟨_, _, _, _, _, _, _, _⟩ := A6.out.below (((Below.refl _ _).drew).trans hb7); obtain ⟨_, _, _, _, _, _, _, _⟩ := X6.out.below (((Below.refl _ _).drew).trans hb7))
           | (go_at_call 18; refine (eqMember_same f mt xf os sz (some ⟨ge, 0, none⟩) (some ⟨gn, 0, none⟩) (some ⟨gc, 0, none⟩) (some ⟨he, 0, none⟩) (some ⟨hn, 0, none⟩) (some ⟨hc, 0, none⟩) ze.length zn.length zc.length ze.length zn.length zc.length ze zn zc _ (S1.out.below (((Below.refl _ _).drew).trans hb7)) (S2.out.below (((Below.refl _ _).drew).trans hb7)) (S3.out.below (((Below.refl _ _).drew).trans hb7)) q1 q2 q3 le ln lc).mono ?_; rintro e w8 ⟨rfl, hb8⟩; obtain ⟨_, _, _, _, _, _, _, _⟩ := (A6.out.below (((Below.refl _ _).drew).trans hb7)).below hb8; obtain ⟨_, _, _, _, _, _, _, _⟩ := (X6.out.below (((Below.refl _ _).drew).trans hb7)).below hb8))
  have hb78 : Below w6.heap.size w6 w8 := ((Below.refl _ _).drew).trans (hb7.trans (hb8.mono (by have := hb7.size; simpa using this)))
  go_wp2_with fail
  go_ret
  exact ⟨rfl, L6.out.trans (hb78.mono L6.out.size)⟩
end Go.Proofs.Ytmfacacpoajpgad
