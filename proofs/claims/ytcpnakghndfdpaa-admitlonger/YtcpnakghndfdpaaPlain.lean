/- Weights in pages as plain values: where each lies, what is placed, fetched and released. -/
import Derived.Test.YtcpnakghndfdpaaRows
import Derived.WalkKit
import Derived.ProofKit
import Derived.OpenShut
import Derived.Below
import Derived.Deep.QuietTactic
import Derived.BigQuiet
import Derived.WalkLawsBesides
namespace Go.Proofs.Ytcpnakghndfdpaa
set_option maxRecDepth 20000

open Go.ChangeShapes Go.WideShapes Go.ChangeAt Go.RowKit

set_option linter.unusedVariables false

/-- how many pages so many weights take -/
def needZ (n : Int) : Int := if n < 1 then 0 else (n - 1) / 32 + 1

end Go.Proofs.Ytcpnakghndfdpaa
