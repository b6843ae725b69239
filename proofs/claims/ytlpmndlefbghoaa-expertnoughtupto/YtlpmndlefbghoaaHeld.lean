/- A fact put out of the walk's sight. -/
import Derived.Test.YtlpmndlefbghoaaRows
import Derived.Test.YtlpmndlefbghoaaView
import Derived.WalkKit
import Derived.ProofKit
import Derived.OpenShut
import Derived.Below
import Derived.WalkLawsBesides
import Derived.Deep.QuietTactic
import Derived.BigQuiet
namespace Go.Proofs.Ytlpmndlefbghoaa
open Go.ChangeShapes Go.WideShapes Go.ChangeAt Go.RowKit
set_option linter.unusedVariables false
set_option linter.unusedSimpArgs false

theorem hidden_ {p : Prop} (h : p) : Hid p := h

end Go.Proofs.Ytlpmndlefbghoaa
