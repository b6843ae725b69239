/- Rows of rows, and what the program's Mean and its helpers give back: contracts of the calls. -/
import Derived.Test.YteeljnibglnflaaRows
import Derived.Test.YteeljnibglnflaaView
import Derived.WalkKit
import Derived.ProofKit
import Derived.OpenShut
import Derived.WalkLawsBesides
import Derived.Below
import Derived.Deep.QuietTactic
import Derived.BigQuiet
import Derived.Deep.RegionWith
namespace Go.Proofs.Yteeljnibglnflaa
set_option maxRecDepth 20000

open Go.ChangeShapes Go.WideShapes Go.ChangeAt Go.RowKit

set_option linter.unusedVariables false

/-- the first n cells from a on are slices, row r reading as the numbers R r -/
structure Grid (w : World) (a : Option Addr) (n : Nat) (A : Nat → Option Addr) (C : Nat → Nat) (R : Nat → List Int) : Prop where
  max : n ≤ 9223372036854775807
  some_ : 0 < n → ∃ x, a = some x
  cell : ∀ x, a = some x → ∀ r, r < n → w.cell? (x.add r) = some (.slice (A r) (R r).length (C r))
  row : ∀ r, r < n → Reads .i64 w (A r) (R r).length (R r)

theorem Grid.below {w w' : World} {a : Option Addr} {n : Nat} {A : Nat → Option Addr} {C : Nat → Nat} {R : Nat → List Int} (h : Grid w a n A C R) (hb : Below w.heap.size w w') : Grid w' a n A C R :=
  ⟨h.max, h.some_, fun x hx r hr => (hb.cell (World.block_lt_of_cell? w _ (h.cell x hx r hr))).trans (h.cell x hx r hr), fun r hr => (h.row r hr).below hb⟩

end Go.Proofs.Yteeljnibglnflaa
