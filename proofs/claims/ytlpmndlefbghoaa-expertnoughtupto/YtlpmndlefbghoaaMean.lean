/- Rows of rows, and what the program's Mean and its helpers give back: contracts of the calls. -/
import Derived.Test.YtlpmndlefbghoaaRows
import Derived.Test.YtlpmndlefbghoaaSat
import Derived.Test.YtlpmndlefbghoaaAdds
import Derived.Test.YtlpmndlefbghoaaView
import Derived.Test.YtlpmndlefbghoaaOwn
import Derived.WalkKit
import Derived.ProofKit
import Derived.OpenShut
import Derived.Below
import Derived.WalkLawsBesides
import Derived.Deep.RegionWith
import Derived.Deep.QuietTactic
import Derived.BigQuiet
namespace Go.Proofs.Ytlpmndlefbghoaa
open Go.ChangeShapes Go.WideShapes Go.ChangeAt Go.RowKit
set_option linter.unusedVariables false

/-- the first n cells from a on are slices, row r reading as the numbers R r -/
structure Grid (w : World) (a : Option Addr) (n : Nat) (A : Nat → Option Addr) (C : Nat → Nat) (R : Nat → List Int) : Prop where
  max : n ≤ 9223372036854775807
  some_ : 0 < n → ∃ x, a = some x
  cell : ∀ x, a = some x → ∀ r, r < n → w.cell? (x.add r) = some (.slice (A r) (R r).length (C r))
  row : ∀ r, r < n → Reads .i64 w (A r) (R r).length (R r)

theorem Grid.below {w w' : World} {a : Option Addr} {n : Nat} {A : Nat → Option Addr} {C : Nat → Nat} {R : Nat → List Int} (h : Grid w a n A C R) (hb : Below w.heap.size w w') : Grid w' a n A C R :=
  ⟨h.max, h.some_, fun x hx r hr => (hb.cell (World.block_lt_of_cell? w _ (h.cell x hx r hr))).trans (h.cell x hx r hr), fun r hr => (h.row r hr).below hb⟩

theorem Grid.first {w : World} {x : Addr} {n : Nat} {A : Nat → Option Addr} {C : Nat → Nat} {R : Nat → List Int} (h : Grid w (some x) n A C R) (hn : 0 < n) : w.cell? x = some (.slice (A 0) (R 0).length (C 0)) := by
  have := h.cell x rfl 0 hn
  rwa [Addr.add_zero'] at this

/-- there are rows, all of one length -/
def Even (n : Nat) (R : Nat → List Int) : Prop := 0 < n ∧ ∀ r, r < n → (R r).length = (R 0).length

/-- from nought on, place j of the first k rows, clamped, added one behind the other -/
def colZ (R : Nat → List Int) (j : Nat) : Nat → Int
  | 0 => 0
  | k + 1 => addZ (colZ R j k) (clampZ ((R k).getD j 0))

theorem wf_colZ (R : Nat → List Int) (j k : Nat) : (Lit.int .i64 (colZ R j k)).wf = true := by
  cases k with
  | zero => show (Lit.int .i64 0).wf = true; decide
  | succ k => exact wf_addZ _ _

def meanF (R : Nat → List Int) (n : Nat) (j : Nat) : Int := clampZ ((colZ R j n).tdiv n)

theorem tdiv_up (S : Int) (n : Nat) (h : 0 ≤ S) : 0 ≤ S.tdiv n := Int.tdiv_nonneg h (Int.natCast_nonneg n)

theorem tdiv_down (S : Int) (n : Nat) (h : S ≤ 0) : S.tdiv n ≤ 0 := by
  have := tdiv_up (-S) n (by omega)
  rw [Int.neg_tdiv] at this
  omega

theorem tdiv_within (S : Int) (n : Nat) (h0 : -9223372036854775808 ≤ S) (h1 : S ≤ 9223372036854775807) : -9223372036854775808 ≤ S.tdiv n ∧ S.tdiv n ≤ 9223372036854775807 := by
  have a : (S.tdiv n).natAbs ≤ S.natAbs := by
    rw [Int.natAbs_tdiv]
    exact Nat.div_le_self _ _
  by_cases h : 0 ≤ S
  · have := tdiv_up S n h
    omega
  · have := tdiv_down S n (by omega)
    omega

end Go.Proofs.Ytlpmndlefbghoaa
