/- What visit reads of a model as it lies in memory, whatever the closure does. -/
import Derived.Test.YtcpnakghndfdpaaRows
import Derived.WalkKit
import Derived.ProofKit
import Derived.OpenShut
import Derived.Below
import Derived.Deep.QuietTactic
import Derived.BigQuiet
import Derived.WalkLawsBesides
import Derived.Deep.RegionWith
namespace Go.Proofs.Ytcpnakghndfdpaa

set_option maxRecDepth 20000

open Go.ChangeShapes Go.WideShapes Go.ChangeAt Go.RowKit

set_option linter.unusedVariables false

theorem hidden_ {p : Prop} (h : p) : Hid p := h

structure Held (mb cb ln lc ne : Nat) (LA : Addr) (UA DA : Nat → Addr) (uc dc : Nat → Nat) (d v u x : Int) (W : World) : Prop where
  c9 : W.cell? ⟨mb, 9, none⟩ = some (.slice (some LA) ln lc)
  d0 : W.cell? ⟨cb, 0, none⟩ = some (.int .i64 d)
  d3 : W.cell? ⟨cb, 3, none⟩ = some (.int .i64 v)
  d4 : W.cell? ⟨cb, 4, none⟩ = some (.int .i64 u)
  d5 : W.cell? ⟨cb, 5, none⟩ = some (.int .i64 x)
  up : ∀ i, i < ln → W.cell? ⟨(LA.add (i * 9)).block, (LA.add (i * 9)).off + 7, none⟩ = some (.slice (some (UA i)) ne (uc i))
  dn : ∀ i, i < ln → W.cell? ⟨(LA.add (i * 9)).block, (LA.add (i * 9)).off + 8, none⟩ = some (.slice (some (DA i)) ne (dc i))

end Go.Proofs.Ytcpnakghndfdpaa
