/- Rows that a call itself makes and fills: how they read behind it. -/
import Derived.Test.YtcpnakghndfdpaaRows
import Derived.Test.YtcpnakghndfdpaaView
import Derived.WalkKit
import Derived.ProofKit
import Derived.OpenShut
import Derived.Below
import Derived.Deep.QuietTactic
import Derived.BigQuiet
namespace Go.Proofs.Ytcpnakghndfdpaa

set_option maxRecDepth 20000

open Go.ChangeShapes Go.WideShapes Go.ChangeAt Go.RowKit

set_option linter.unusedVariables false

theorem info3 : (Try.prog.info? 3).map (fun i => (i.zero, i.size, i.bytes)) = some (some (.int .i64 0), 1, 8) := by kernel_rfl

/-- a row that is owned reads as the numbers that it holds -/
theorem own_reads {k : IntKind} {w : World} {B : Nat} {e : TypeId} {v : Value} {n : Nat} {cs : List Value} (h : w.ownsRow B e 1 v n cs) {zs : List Int} (hl : zs.length = n)
    (hw : ∀ z ∈ zs, (Lit.int k z).wf = true) (hc : ∀ j, j < n → cs[j]? = some (.int k (zs.getD j 0))) : ∃ a c, v = .slice a n c ∧ Reads k w a n zs := by
  rcases h.2 with ⟨rfl, rfl⟩ | ⟨g, cap, cur, rfl, _, hg, hn, hm, hs, ht⟩
  · obtain rfl := List.eq_nil_of_length_eq_zero hl
    exact ⟨none, 0, rfl, Reads.nil _ _⟩
  · refine ⟨_, _, rfl, Reads.of_row hl (by unfold maxLen at hm; omega) hw fun i hi => ?_⟩
    exact h.cells (g := g) rfl i _ (hc i hi)

end Go.Proofs.Ytcpnakghndfdpaa
