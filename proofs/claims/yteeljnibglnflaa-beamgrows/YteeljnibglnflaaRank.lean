/- What the program's Rank and Max answer: contracts of the calls. -/
import Derived.Test.YteeljnibglnflaaRows
import Derived.Test.YteeljnibglnflaaRanks
import Derived.WalkKit
import Derived.ProofKit
import Derived.OpenShut
import Derived.Below
import Derived.Deep.QuietTactic
import Derived.BigQuiet
import Derived.WalkLawsBesides
import Derived.Deep.RegionWith
namespace Go.Proofs.Yteeljnibglnflaa

set_option maxRecDepth 20000

open Go.ChangeShapes Go.WideShapes Go.ChangeAt Go.RowKit

set_option linter.unusedVariables false

/-- what Rank answers -/
def rankZ (xs : List Int) (i : Int) : Int := if i < 0 ∨ (xs.length : Int) ≤ i then -1 else (rankTo xs xs.length i.toNat : Nat)

/-- what Max answers -/
def maxZ (xs : List Int) : Int := if xs.length = 0 then -1 else ((places xs).getD 0 0 : Nat)

end Go.Proofs.Yteeljnibglnflaa
