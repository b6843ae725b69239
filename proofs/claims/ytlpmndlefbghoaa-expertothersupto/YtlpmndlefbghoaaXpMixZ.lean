/- What networks make of a row together: plain functions. -/
import Derived.Test.YtlpmndlefbghoaaRows
import Derived.Test.YtlpmndlefbghoaaSat
import Derived.Test.YtlpmndlefbghoaaAdds
import Derived.Test.YtlpmndlefbghoaaExp
import Derived.Test.YtlpmndlefbghoaaFitZ
import Derived.Test.YtlpmndlefbghoaaMats
import Derived.Test.YtlpmndlefbghoaaSoft
import Derived.Test.YtlpmndlefbghoaaRanks
import Derived.Test.YtlpmndlefbghoaaAskZ
import Derived.Test.YtlpmndlefbghoaaXpRouteZ
import Derived.WalkKit
import Derived.ProofKit
import Derived.OpenShut
import Derived.Below
import Derived.WalkLawsBesides
import Derived.Deep.QuietTactic
import Derived.BigQuiet
namespace Go.Proofs.Ytlpmndlefbghoaa
open Go.ChangeShapes Go.WideShapes Go.ChangeAt Go.RowKit
set_option linter.unusedVariables false
set_option linter.unusedSimpArgs false

/-- from nought on, by shares, place i of the first rows, added one behind the other -/
def blendTo (sh : Nat → Int) (ro : Nat → List Int) (i : Nat) : Nat → Int
  | 0 => 0
  | k + 1 => addZ (blendTo sh ro i k) (sh k * (ro k).getD i 0)
def blendZ (sh : Nat → Int) (ro : Nat → List Int) (K : Nat) (i : Nat) : Int := clampZ (shiftZ (blendTo sh ro i K) 16)

theorem wf_blendTo (sh : Nat → Int) (ro : Nat → List Int) (i k : Nat) : (Lit.int .i64 (blendTo sh ro i k)).wf = true := by
  cases k with
  | zero => show (Lit.int .i64 0).wf = true; decide
  | succ k => exact wf_addZ _ _

/-- the rows of the networks that a row goes to -/
def rowsL (router : List Int) (U D : Nat → List Int) (xs : List Int) (j : Nat) : List Int := oneL (U (plc router xs j)) (D (plc router xs j)) xs
/-- whether all networks that a row goes to fit it -/
def restB (router : List Int) (U D : Nat → List Int) (h : Int) (K : Nat) (xs : List Int) : Bool := (List.range K).all fun j => oneB (U (plc router xs j)) (D (plc router xs j)) h xs
def sh (router : List Int) (k : Int) (xs : List Int) (j : Nat) : Int := (routeS router k xs).getD j 0
def sumL (router : List Int) (U D : Nat → List Int) (k : Int) (xs : List Int) : List Int := (List.range xs.length).map (blendZ (sh router k xs) (rowsL router U D xs) k.toNat)

/-- the error that Mix answers, 0 being none -/
def mixE (router : List Int) (n m : Nat) (U D : Nat → List Int) (h k : Int) (xs : List Int) : Int :=
  if n = 0 ∨ n ≠ m then 21 else if n = 1 then (if oneB (U 0) (D 0) h xs then 0 else 21)
  else if routeB router n k xs = false then routeE router n k xs else if restB router U D h k.toNat xs then 0 else 21
/-- the row that Mix answers -/
def mixL (router : List Int) (n : Nat) (U D : Nat → List Int) (k : Int) (xs : List Int) : List Int := if n = 1 then oneL (U 0) (D 0) xs else sumL router U D k xs
def mixR (router : List Int) (n m : Nat) (U D : Nat → List Int) (h k : Int) (xs : List Int) : List Int := if mixE router n m U D h k xs = 0 then mixL router n U D k xs else []

theorem restB_yes {router : List Int} {U D : Nat → List Int} {h : Int} {K : Nat} {xs : List Int} (hb : restB router U D h K xs = true) {j : Nat} (hj : j < K) : oneB (U (plc router xs j)) (D (plc router xs j)) h xs = true :=
  List.all_eq_true.1 hb j (List.mem_range.2 hj)

/-- the first network that does not fit -/
theorem restB_no {router : List Int} {U D : Nat → List Int} {h : Int} {K : Nat} {xs : List Int} (hb : restB router U D h K xs = false) :
    ∃ J, J < K ∧ (∀ j, j < J → oneB (U (plc router xs j)) (D (plc router xs j)) h xs = true) ∧ oneB (U (plc router xs J)) (D (plc router xs J)) h xs = false := by
  have key : ∀ K, restB router U D h K xs = false → ∃ J, J < K ∧ (∀ j, j < J → oneB (U (plc router xs j)) (D (plc router xs j)) h xs = true) ∧ oneB (U (plc router xs J)) (D (plc router xs J)) h xs = false := by
    intro K
    induction K with
    | zero => intro h; simp [restB] at h
    | succ K ih =>
      intro hK
      cases hp : restB router U D h K xs with
      | false =>
        obtain ⟨J, h1, h2⟩ := ih hp
        exact ⟨J, by omega, h2⟩
      | true =>
        refine ⟨K, by omega, fun j hj => restB_yes hp hj, ?_⟩
        unfold restB at hp hK
        rw [List.range_succ, List.all_append, hp, Bool.true_and] at hK
        simpa using hK
  exact key K hb

theorem sumL_length (router : List Int) (U D : Nat → List Int) (k : Int) (xs : List Int) : (sumL router U D k xs).length = xs.length := by simp [sumL]
theorem sumL_at (router : List Int) (U D : Nat → List Int) (k : Int) (xs : List Int) (i : Nat) (h : i < xs.length) : (sumL router U D k xs).getD i 0 = blendZ (sh router k xs) (rowsL router U D xs) k.toNat i := by simp [sumL, List.getD, h]
theorem wf_sumL (router : List Int) (U D : Nat → List Int) (k : Int) (xs : List Int) : ∀ z ∈ sumL router U D k xs, (Lit.int .i64 z).wf = true := by
  intro z hz
  obtain ⟨y, _, rfl⟩ := List.mem_map.1 hz
  exact wf_clampZ _

end Go.Proofs.Ytlpmndlefbghoaa
