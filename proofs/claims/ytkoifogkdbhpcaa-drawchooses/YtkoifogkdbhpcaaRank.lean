/- What the program's Rank and Max answer: contracts of the calls. -/
import Derived.Test.YtkoifogkdbhpcaaRows
import Derived.Test.YtkoifogkdbhpcaaRanks
import Derived.WalkKit
import Derived.ProofKit
import Derived.OpenShut
import Derived.Below
import Derived.Deep.QuietTactic
import Derived.BigQuiet
import Derived.WalkLawsBesides
import Derived.Deep.RegionWith
namespace Go.Proofs.Ytkoifogkdbhpcaa
set_option maxRecDepth 20000

open Go.ChangeShapes Go.WideShapes Go.ChangeAt Go.RowKit

set_option linter.unusedVariables false

theorem below_cell {w w' : World} {p : Addr} {v : Value} (hb : Below w.heap.size w w') (h : w.cell? p = some v) : w'.cell? p = some v := (hb.cell (World.block_lt_of_cell? w p h)).trans h

/-- what Rank answers -/
def rankZ (xs : List Int) (i : Int) : Int := if i < 0 ∨ (xs.length : Int) ≤ i then -1 else (rankTo xs xs.length i.toNat : Nat)

/-- what Max answers -/
def maxZ (xs : List Int) : Int := if xs.length = 0 then -1 else ((places xs).getD 0 0 : Nat)

end Go.Proofs.Ytkoifogkdbhpcaa
