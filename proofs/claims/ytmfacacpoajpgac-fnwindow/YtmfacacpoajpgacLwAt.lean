import Derived.Test.YtmfacacpoajpgacProg
import Derived.Test.YtmfacacpoajpgacMem
import Derived.WalkKit
import Derived.WalkSpells
import Derived.WalkLawsBesides
import Derived.BigQuiet
namespace Go.Proofs.Ytmfacacpoajpgac
open Go.RowKit

/-- laws.lwAt, in front of the end or behind: a byte. -/
theorem lwAt_any (co : Option Addr) (cc : Nat) (cs : List Int) (i : Nat) (w : World) (hr : Row w co cs) (ho : Octets cs) (hi : i ≤ 1048576) :
    Calls Try.prog 23 #[.slice co cs.length cc, .int .i64 i] w fun e w' => (∃ x : Nat, e = .returned (.int .i64 x) ∧ x ≤ 255) ∧ w' = w := by
  by_cases hlt : i < cs.length
  · obtain ⟨b, off, rfl, hc⟩ := hr.at hlt
    have hck := hc i hlt
    have hy := ho.getD i
    clear hc hr ho
    generalize cs.getD i 0 = y at *
    obtain ⟨Y, rfl⟩ := Int.eq_ofNat_of_zero_le hy.1
    go_enter Try.func23, Try.ntmps23
    go_wp2_with fail
    go_ret
    exact ⟨⟨Y, rfl, by omega⟩, rfl⟩
  · clear hr ho
    go_enter Try.func23, Try.ntmps23
    go_wp2_with fail
    go_ret
    refine ⟨⟨(i * 47 + 13) % 256, ?_, by omega⟩, rfl⟩
    congr 2


end Go.Proofs.Ytmfacacpoajpgac
