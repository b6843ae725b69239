/- For every number of the type float64 and every whole number of 64 bits without sign the Go function KnobSigns returns true (a number with its sign turned is made the fixed one with its sign turned, but at the edge; what is no number is refused, whatever its bits) and leaves its arguments as they were; no condition. -/
import Derived.Test.YtkoifogkdbhpcaaRows
import Derived.Test.YtkoifogkdbhpcaaKnFloats
import Derived.Test.YtkoifogkdbhpcaaKnOps
import Derived.Test.YtkoifogkdbhpcaaKnRound
import Derived.Test.YtkoifogkdbhpcaaKnFixes
import Derived.Laws.FloatArith
import Derived.WalkKit
import Derived.ProofKit
import Derived.OpenShut
import Derived.WalkLawsBesides
import Derived.Laws.Externs
import Derived.Laws.BitsAllLaws
namespace Go.Proofs.Ytkoifogkdbhpcaa.knobSigns
set_option maxRecDepth 20000

open Go.ChangeShapes Go.WideShapes Go.ChangeAt Go.RowKit

set_option linter.unusedVariables false

set_option linter.unusedSimpArgs false

theorem fixN_of {x : Nat} (h : isN x = false) : fixN x = if 32768 * (UN : Int) ≤ K x then 2147483647 else if K x ≤ -(32768 * (UN : Int)) then -2147483648 else min (rnd (65536 * K x)) 2147483647 := by
  unfold fixN
  rw [h]
  rfl

theorem fixN_bounds (x : Nat) : -2147483648 ≤ fixN x ∧ fixN x ≤ 2147483647 := by
  cases h : isN x
  · rw [fixN_of h]
    by_cases c1 : 32768 * (UN : Int) ≤ K x
    · rw [if_pos c1]; omega
    · rw [if_neg c1]
      by_cases c2 : K x ≤ -(32768 * (UN : Int))
      · rw [if_pos c2]; omega
      · rw [if_neg c2]
        have := rnd_bound (Y := 65536 * K x) (by omega)
        omega
  · have : fixN x = 0 := by unfold fixN; rw [h]; rfl
    omega

end Go.Proofs.Ytkoifogkdbhpcaa.knobSigns
