/- Rows of rows that a call itself makes, one row appended behind the other. -/
import Derived.Test.YteeljnibglnflaaRows
import Derived.Test.YteeljnibglnflaaView
import Derived.Test.YteeljnibglnflaaWhere
import Derived.WalkKit
import Derived.ProofKit
import Derived.OpenShut
import Derived.Below
import Derived.Deep.QuietTactic
import Derived.BigQuiet
import Derived.ArgAppend
import Derived.WalkLawsBesides
import Derived.Deep.RegionWith
namespace Go.Proofs.Yteeljnibglnflaa

set_option maxRecDepth 20000

open Go.ChangeShapes Go.WideShapes Go.ChangeAt Go.RowKit

set_option linter.unusedVariables false

theorem Reads.grown {k : IntKind} {w w' : World} {a : Option Addr} {n : Nat} {zs : List Int} {row : Option Nat} (h : Reads k w a n zs) (hg : w.grownBy w' row) (ha : 0 < n → ∀ x, a = some x → ∀ g, row = some g → x.block ≠ g) : Reads k w' a n zs :=
  ⟨h.len, h.max, h.wf, h.some_, fun x hx i hi => hg.cell (h.cell x hx i hi) (fun e => by
    exact ha (by omega) x hx _ e.symm (by simp only [Addr.add]; split <;> rfl))⟩

end Go.Proofs.Yteeljnibglnflaa
