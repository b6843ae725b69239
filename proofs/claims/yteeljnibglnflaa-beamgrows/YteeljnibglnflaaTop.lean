/- What the program's Top answers: the contract of the call. -/
import Derived.Test.YteeljnibglnflaaRows
import Derived.Test.YteeljnibglnflaaRanks
import Derived.WalkKit
import Derived.ProofKit
import Derived.OpenShut
import Derived.Below
import Derived.Deep.QuietTactic
import Derived.BigQuiet
import Derived.WalkLawsBesides
import Derived.Deep.RegionWith
import Derived.Deep.RegionLaw
import Derived.Laws.AppendOwnNone
import Derived.Defers
import Derived.Recover
import Derived.Laws.Pointers
namespace Go.Proofs.Yteeljnibglnflaa

set_option maxRecDepth 20000

open Go.ChangeShapes Go.WideShapes Go.ChangeAt Go.RowKit

set_option linter.unusedVariables false

theorem wf_nat (i : Nat) (h : i ≤ 9223372036854775807) : (Lit.int .i64 (i : Int)).wf = true := by
  simp only [Lit.wf, IntKind.min, IntKind.max, IntKind.signed, IntKind.bits]
  simp
  omega

/-- all places, as numbers -/
def allZ (xs : List Int) : List Int := (places xs).map fun (i : Nat) => (i : Int)

theorem allZ_wf (xs : List Int) (h : xs.length ≤ 9223372036854775807) : ∀ z ∈ allZ xs, (Lit.int .i64 z).wf = true := by
  intro z hz
  obtain ⟨i, hi, rfl⟩ := List.mem_map.1 hz
  have := List.mem_range.1 ((places_ordered xs).1.mem_iff.1 hi)
  exact wf_nat i (by omega)

theorem topZ_all (xs : List Int) (k : Int) : pickZ xs k = (allZ xs).take k.toNat := by unfold pickZ allZ; rw [List.map_take]

end Go.Proofs.Yteeljnibglnflaa
