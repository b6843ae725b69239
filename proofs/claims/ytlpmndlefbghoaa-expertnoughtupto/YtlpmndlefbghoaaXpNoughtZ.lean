/- Of weights that are nought comes nought. -/
import Derived.Test.YtlpmndlefbghoaaRows
import Derived.Test.YtlpmndlefbghoaaSat
import Derived.Test.YtlpmndlefbghoaaAdds
import Derived.Test.YtlpmndlefbghoaaExp
import Derived.Test.YtlpmndlefbghoaaFitZ
import Derived.Test.YtlpmndlefbghoaaMats
import Derived.Test.YtlpmndlefbghoaaSoft
import Derived.Test.YtlpmndlefbghoaaRanks
import Derived.Test.YtlpmndlefbghoaaAskZ
import Derived.Test.YtlpmndlefbghoaaXpRouteZ
import Derived.Test.YtlpmndlefbghoaaXpMixZ
import Derived.WalkKit
import Derived.ProofKit
import Derived.OpenShut
import Derived.Below
import Derived.WalkLawsBesides
import Derived.Deep.QuietTactic
import Derived.BigQuiet
namespace Go.Proofs.Ytlpmndlefbghoaa
open Go.ChangeShapes Go.WideShapes Go.ChangeAt Go.RowKit
set_option linter.unusedVariables false
set_option linter.unusedSimpArgs false

theorem getD_nought {a : List Int} (h : ∀ z ∈ a, z = 0) (k : Nat) : a.getD k 0 = 0 := by
  by_cases hk : k < a.length
  · have e : a.getD k 0 = a[k] := by simp [List.getD, hk]
    rw [e]
    exact h _ (List.getElem_mem hk)
  · simp [List.getD, hk]

theorem prod_nought {a : List Int} (b : List Int) (h : ∀ z ∈ a, z = 0) (k : Nat) : prodZ a b k = 0 := by
  induction k with
  | zero => rfl
  | succ k ih =>
    show addZ (prodZ a b k) (clampZ (a.getD k 0) * clampZ (b.getD k 0)) = 0
    rw [ih, getD_nought h, show clampZ 0 = 0 by decide, Int.zero_mul]
    decide

theorem row_nought {ws : List Int} (d : Nat) (xs : List Int) (h : ∀ z ∈ ws, z = 0) (i : Nat) : rowZ ws d xs i = 0 := by
  unfold rowZ dotZ
  rw [prod_nought xs (fun z hz => h z (List.mem_of_mem_drop (List.mem_of_mem_take hz)))]
  decide

theorem mat_nought {ws : List Int} (xs : List Int) (h : ∀ z ∈ ws, z = 0) (i : Nat) : (matL ws xs).getD i 0 = 0 := by
  by_cases hi : i < ws.length / xs.length
  · rw [matL_at _ _ _ hi, row_nought _ _ h]
  · simp [matL, List.getD, hi]

theorem blend_nought {sh : Nat → Int} {ro : Nat → List Int} (h : ∀ j i, (ro j).getD i 0 = 0) (i k : Nat) : blendTo sh ro i k = 0 := by
  induction k with
  | zero => rfl
  | succ k ih =>
    show addZ (blendTo sh ro i k) (sh k * (ro k).getD i 0) = 0
    rw [ih, h, Int.mul_zero]
    decide

theorem mix_nought (ro : List Int) (n : Nat) (U D : Nat → List Int) (k : Int) (xs : List Int) (h : ∀ r, ∀ z ∈ D r, z = 0) (i : Nat) : (mixL ro n U D k xs).getD i 0 = 0 := by
  unfold mixL
  split
  · exact mat_nought _ (h 0) i
  · by_cases hi : i < xs.length
    · rw [sumL_at _ _ _ _ _ _ hi]
      unfold blendZ
      rw [blend_nought (ro := rowsL ro U D xs) (fun j i => mat_nought _ (h _) i)]
      decide
    · simp [sumL, List.getD, hi]

theorem mixL_length {ro : List Int} {n m : Nat} {U D : Nat → List Int} {h k : Int} {xs : List Int} (hE : mixE ro n m U D h k xs = 0) : (mixL ro n U D k xs).length = xs.length := by
  unfold mixL
  unfold mixE at hE
  by_cases c1 : n = 0 ∨ n ≠ m
  · rw [if_pos c1] at hE; exact absurd hE (by decide)
  · rw [if_neg c1] at hE
    by_cases c2 : n = 1
    · rw [if_pos c2] at hE ⊢
      cases hb : oneB (U 0) (D 0) h xs with
      | true => exact oneL_length hb
      | false => rw [hb] at hE; exact absurd hE (by decide)
    · rw [if_neg c2, sumL_length]

end Go.Proofs.Ytlpmndlefbghoaa
