/- What the program's Rank and Max answer: contracts of the calls. -/
import Derived.Test.YtlpmndlefbghoaaRows
import Derived.Test.YtlpmndlefbghoaaView
import Derived.Test.YtlpmndlefbghoaaRanks
import Derived.Test.YtlpmndlefbghoaaCmp
import Derived.WalkKit
import Derived.ProofKit
import Derived.OpenShut
import Derived.Below
import Derived.WalkLawsBesides
namespace Go.Proofs.Ytlpmndlefbghoaa
open Go.ChangeShapes Go.WideShapes Go.ChangeAt Go.RowKit
set_option linter.unusedVariables false

theorem cf_lt {xs : List Int} {i j : Nat} (h : ahead xs i j = true) : cfZ xs i j < 0 := by
  rw [← cfZ_neg] at h
  simpa using h
theorem cf_ge {xs : List Int} {i j : Nat} (h : ahead xs i j = false) : ¬cfZ xs i j < 0 := by
  rw [← cfZ_neg] at h
  simpa using h

theorem below_cell {w w' : World} {p : Addr} {v : Value} (hb : Below w.heap.size w w') (h : w.cell? p = some v) : w'.cell? p = some v := (hb.cell (World.block_lt_of_cell? w p h)).trans h

theorem below_one {w W : World} (h : Below w.heap.size w W) {W' : World} (k : ∃ o, W' = (W.alloc o).drew) : Below w.heap.size w W' := by
  obtain ⟨o, rfl⟩ := k
  exact below_drew (below_new h o) ⟨1, rfl⟩

/-- what Rank answers -/
def rankZ (xs : List Int) (i : Int) : Int := if i < 0 ∨ (xs.length : Int) ≤ i then -1 else (rankTo xs xs.length i.toNat : Nat)

/-- what Max answers -/
def maxZ (xs : List Int) : Int := if xs.length = 0 then -1 else ((places xs).getD 0 0 : Nat)

end Go.Proofs.Ytlpmndlefbghoaa
