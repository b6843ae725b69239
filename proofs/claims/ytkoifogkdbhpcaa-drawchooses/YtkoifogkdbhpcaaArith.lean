/- Of the numbers behind package curve: no program. -/
import Derived.Test.YtkoifogkdbhpcaaRows
import Derived.Test.YtkoifogkdbhpcaaSat
import Derived.Test.YtkoifogkdbhpcaaTabs
import Derived.WalkKit
import Derived.ProofKit
import Derived.OpenShut
import Derived.WalkLawsBesides
import Derived.Below
import Derived.Deep.QuietTactic
import Derived.BigQuiet
namespace Go.Proofs.Ytkoifogkdbhpcaa
set_option maxRecDepth 20000

open Go.ChangeShapes Go.WideShapes Go.ChangeAt Go.RowKit

set_option linter.unusedVariables false

def tZ (x : Int) : Int := -mulZ (min (clampZ x) 0) 94548

def expZ (x : Int) : Int := if 16 < tZ x / 65536 then 0 else betweenZ (tZ x % 65536) / 2 ^ (tZ x / 65536).toNat

theorem clampZ_nonpos (x : Int) (h : x ≤ 0) : clampZ x ≤ 0 := by
  unfold clampZ
  repeat' split
  all_goals omega

theorem mulZ_sixteen (a b : Int) : mulZ a b = clampZ (if clampZ a * clampZ b < 0 then -((-(clampZ a * clampZ b) / 32768 + 1) / 2) else (clampZ a * clampZ b / 32768 + 1) / 2) := by
  have ba := clampZ_bounds a
  have bb := clampZ_bounds b
  have p1 : clampZ a * clampZ b ≤ 4611686018427387904 ∧ -4611686018427387904 ≤ clampZ a * clampZ b := by
    generalize clampZ a = A at *
    generalize clampZ b = B at *
    have h := Int.natAbs_mul A B
    have h1 : A.natAbs ≤ 2147483648 := by omega
    have h2 : B.natAbs ≤ 2147483648 := by omega
    have h3 := Nat.mul_le_mul h1 h2
    omega
  have e : wrap64 (clampZ a * clampZ b) = clampZ a * clampZ b := by
    rw [wrap64_eq]; omega
  unfold mulZ
  rw [e]
  generalize clampZ a * clampZ b = M at *
  unfold shiftZ shN
  rw [if_neg (by decide)]
  rfl

theorem tZ_bounds (x : Int) : 0 ≤ tZ x ∧ tZ x ≤ 2147483648 := by
  have c := clampZ_bounds (if clampZ (min (clampZ x) 0) * clampZ 94548 < 0 then -((-(clampZ (min (clampZ x) 0) * clampZ 94548) / 32768 + 1) / 2) else (clampZ (min (clampZ x) 0) * clampZ 94548 / 32768 + 1) / 2)
  unfold tZ
  rw [mulZ_sixteen]
  have h := clampZ_nonpos (min (clampZ x) 0) (by omega)
  have e : clampZ 94548 = 94548 := by decide
  rw [e] at c ⊢
  refine ⟨?_, by omega⟩
  generalize clampZ (min (clampZ x) 0) = A at *
  have := clampZ_nonpos (if A * 94548 < 0 then -((-(A * 94548) / 32768 + 1) / 2) else (A * 94548 / 32768 + 1) / 2) (by split <;> omega)
  omega

end Go.Proofs.Ytkoifogkdbhpcaa
