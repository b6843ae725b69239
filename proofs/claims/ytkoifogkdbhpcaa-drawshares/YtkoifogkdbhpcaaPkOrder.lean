/- The order of places: plain functions and what holds of them. -/
import Derived.Test.YtkoifogkdbhpcaaRows
import Derived.Test.YtkoifogkdbhpcaaRanks
namespace Go.Proofs.Ytkoifogkdbhpcaa
set_option maxRecDepth 20000

set_option linter.unusedVariables false

/-- a place that none stands ahead of is the first -/
theorem Ordered.first {xs : List Int} {n : Nat} {L : List Nat} (h : Ordered xs n L) {i : Nat} (hi : i < n) (hn : ∀ j, j < n → ahead xs j i = false) : L.getD 0 0 = i := by
  refine (h.rank_iff hi (by omega)).1 ?_
  unfold rankTo
  rw [List.countP_eq_zero]
  intro j hj
  simp [hn j (List.mem_range.1 hj)]

end Go.Proofs.Ytkoifogkdbhpcaa
