/- Which networks a row goes to, and with what shares: plain functions. -/
import Derived.Test.YtlpmndlefbghoaaRows
import Derived.Test.YtlpmndlefbghoaaSat
import Derived.Test.YtlpmndlefbghoaaExp
import Derived.Test.YtlpmndlefbghoaaFitZ
import Derived.Test.YtlpmndlefbghoaaMats
import Derived.Test.YtlpmndlefbghoaaSoft
import Derived.Test.YtlpmndlefbghoaaRanks
import Derived.Test.YtlpmndlefbghoaaAskZ
import Derived.WalkKit
import Derived.ProofKit
import Derived.OpenShut
import Derived.Below
import Derived.WalkLawsBesides
import Derived.Deep.QuietTactic
import Derived.BigQuiet
namespace Go.Proofs.Ytlpmndlefbghoaa
open Go.ChangeShapes Go.WideShapes Go.ChangeAt Go.RowKit
set_option linter.unusedVariables false
set_option linter.unusedSimpArgs false

/-- the place of the j-th best score -/
def plc (router xs : List Int) (j : Nat) : Nat := (places (matL router xs)).getD j 0
/-- the best scores -/
def chosenL (router : List Int) (K : Nat) (xs : List Int) : List Int := (List.range K).map fun j => (matL router xs).getD (plc router xs j) 0
def routeP (router : List Int) (k : Int) (xs : List Int) : List Int := pickZ (matL router xs) k
def routeS (router : List Int) (k : Int) (xs : List Int) : List Int := softZ (chosenL router k.toNat xs) k.toNat
def routeE (router : List Int) (E k : Int) (xs : List Int) : Int := if k < 1 ∨ E < k then 20 else if fitB router.length E xs.length then 0 else 21
def routeB (router : List Int) (E k : Int) (xs : List Int) : Bool := decide (1 ≤ k) && decide (k ≤ E) && fitB router.length E xs.length

theorem routeE_yes {router xs : List Int} {E k : Int} (h : routeB router E k xs = true) : routeE router E k xs = 0 := by
  unfold routeB at h
  simp only [Bool.and_eq_true, decide_eq_true_eq] at h
  unfold routeE
  rw [if_neg (by omega), if_pos h.2]

theorem routeE_no {router xs : List Int} {E k : Int} (h : routeB router E k xs = false) : routeE router E k xs = 20 ∨ routeE router E k xs = 21 := by
  unfold routeE
  by_cases h1 : k < 1 ∨ E < k
  · rw [if_pos h1]; exact .inl rfl
  · rw [if_neg h1]
    cases hf : fitB router.length E xs.length with
    | true =>
      exfalso
      unfold routeB at h
      rw [hf, decide_eq_true (by omega : 1 ≤ k), decide_eq_true (by omega : k ≤ E)] at h
      cases h
    | false => exact .inr rfl

theorem routeE_ne {router xs : List Int} {E k : Int} (h : routeB router E k xs = false) : ¬ routeE router E k xs = 0 := by
  rcases routeE_no h with e | e <;> rw [e] <;> decide

theorem plc_lt {router xs : List Int} {E k : Int} (h : routeB router E k xs = true) {j : Nat} (hj : j < k.toNat) : ((plc router xs j : Nat) : Int) < E := by
  unfold routeB at h
  simp only [Bool.and_eq_true, decide_eq_true_eq] at h
  have hE := (fitB_yes h.2).2.2
  have hl := matL_length router xs
  have := (places_ordered (matL router xs)).lt (m := j) (by omega)
  unfold plc
  omega

theorem routeP_at {router xs : List Int} {E k : Int} (h : routeB router E k xs = true) {j : Nat} (hj : j < k.toNat) : (routeP router k xs).getD j 0 = (plc router xs j : Nat) := by
  unfold routeB at h
  simp only [Bool.and_eq_true, decide_eq_true_eq] at h
  have hE := (fitB_yes h.2).2.2
  have hl := matL_length router xs
  exact topZ_at _ _ _ (by omega)

theorem routeS_length (router : List Int) (k : Int) (xs : List Int) : (routeS router k xs).length = k.toNat := by simp [routeS, softZ]

theorem shareF_bounds (z : List Int) (t S : Int) (j : Nat) : -2147483648 ≤ shareF z t S j ∧ shareF z t S j ≤ 2147483647 := by
  unfold shareF divZ
  split
  · unfold noughtZ
    repeat' split
    all_goals omega
  · exact clampZ_bounds _

theorem routeS_bounds (router : List Int) (k : Int) (xs : List Int) (j : Nat) : -2147483648 ≤ (routeS router k xs).getD j 0 ∧ (routeS router k xs).getD j 0 ≤ 2147483647 := by
  unfold routeS softZ
  by_cases h : j < k.toNat
  · have e : ∀ f : Nat → Int, ((List.range k.toNat).map f).getD j 0 = f j := fun f => by simp [List.getD, h]
    rw [e]
    exact shareF_bounds _ _ _ _
  · have e : ∀ f : Nat → Int, ((List.range k.toNat).map f).getD j 0 = 0 := fun f => by simp [List.getD, h]
    rw [e]
    omega

end Go.Proofs.Ytlpmndlefbghoaa
