/- The remainder of a number taken as one without a sign. -/
import Derived.Test.YtgjjeggopeppfaaRows
import Derived.WalkKit
import Derived.ProofKit
import Derived.OpenShut
import Derived.Below
import Derived.WalkLawsBesides
import Derived.Deep.QuietTactic
import Derived.BigQuiet
namespace Go.Proofs.Ytgjjeggopeppfaa
open Go.ChangeShapes Go.WideShapes Go.ChangeAt Go.RowKit
set_option linter.unusedVariables false
set_option linter.unusedSimpArgs false

theorem restN (x : Int) (n : Nat) (hn : 0 < n) : ∃ M : Nat, M < n ∧ (IntKind.u64.wrap x).tmod (n : Int) = (M : Int) ∧ IntKind.u64.wrap x % (n : Int) = (M : Int) := by
  have b : 0 ≤ IntKind.u64.wrap x := by rw [IntKind.wrap_u64]; omega
  generalize IntKind.u64.wrap x = U at *
  have h0 := Int.emod_nonneg U (show (n : Int) ≠ 0 by omega)
  have h1 := Int.emod_lt_of_pos U (show 0 < (n : Int) by omega)
  refine ⟨(U % (n : Int)).toNat, by omega, ?_, by omega⟩
  rw [Int.tmod_eq_emod_of_nonneg b]
  omega

end Go.Proofs.Ytgjjeggopeppfaa
