/- What one network makes of a row: plain functions. -/
import Derived.Test.YtlpmndlefbghoaaRows
import Derived.Test.YtlpmndlefbghoaaSat
import Derived.Test.YtlpmndlefbghoaaExp
import Derived.Test.YtlpmndlefbghoaaDots
import Derived.Test.YtlpmndlefbghoaaMats
import Derived.WalkKit
import Derived.ProofKit
import Derived.OpenShut
import Derived.Below
import Derived.WalkLawsBesides
import Derived.Deep.QuietTactic
import Derived.BigQuiet
namespace Go.Proofs.Ytlpmndlefbghoaa
open Go.ChangeShapes Go.WideShapes Go.ChangeAt Go.RowKit
set_option linter.unusedVariables false
set_option linter.unusedSimpArgs false

/-- whether so many weights make so many rows of that width -/
def fitB (n : Nat) (r : Int) (d : Nat) : Bool := decide (0 < d ∧ n % d = 0 ∧ ((n / d : Nat) : Int) = r)
/-- the products of a matrix's rows with a row -/
def matL (ws xs : List Int) : List Int := (List.range (ws.length / xs.length)).map (rowZ ws xs.length xs)
/-- what lies within a network -/
def hidL (up xs : List Int) : List Int := (matL up xs).map siluZ
/-- whether a network fits a row -/
def oneB (up down : List Int) (h : Int) (xs : List Int) : Bool := fitB up.length h xs.length && fitB down.length (xs.length : Int) (hidL up xs).length
/-- what a network makes of a row -/
def oneL (up down xs : List Int) : List Int := matL down (hidL up xs)

theorem matL_length (ws xs : List Int) : (matL ws xs).length = ws.length / xs.length := by simp [matL]
theorem hidL_length (up xs : List Int) : (hidL up xs).length = up.length / xs.length := by simp [hidL, matL]

theorem fitB_yes {n d : Nat} {r : Int} (h : fitB n r d = true) : 0 < d ∧ n = n / d * d ∧ r = ((n / d : Nat) : Int) := by
  obtain ⟨h1, h2, h3⟩ := of_decide_eq_true h
  have := Nat.div_add_mod n d
  rw [h2, Nat.mul_comm] at this
  exact ⟨h1, by omega, h3.symm⟩

theorem oneL_length {up down xs : List Int} {h : Int} (hb : oneB up down h xs = true) : (oneL up down xs).length = xs.length := by
  unfold oneB at hb
  rw [Bool.and_eq_true] at hb
  have := (fitB_yes hb.2).2.2
  unfold oneL
  rw [matL_length]
  omega

theorem matL_at (ws xs : List Int) (j : Nat) (h : j < ws.length / xs.length) : (matL ws xs).getD j 0 = rowZ ws xs.length xs j := by
  simp [matL, List.getD, h]
theorem hidL_at (up xs : List Int) (j : Nat) (h : j < up.length / xs.length) : (hidL up xs).getD j 0 = siluZ (rowZ up xs.length xs j) := by
  simp [hidL, matL, List.getD, h]

/-- the numbers of a product are within 32 bits -/
theorem matL_bounds (ws xs : List Int) (j : Nat) : -2147483648 ≤ (matL ws xs).getD j 0 ∧ (matL ws xs).getD j 0 ≤ 2147483647 := by
  by_cases h : j < ws.length / xs.length
  · rw [matL_at _ _ _ h]
    exact clampZ_bounds _
  · have e : (matL ws xs).getD j 0 = 0 := by simp [matL, List.getD, h]
    rw [e]
    omega

end Go.Proofs.Ytlpmndlefbghoaa
