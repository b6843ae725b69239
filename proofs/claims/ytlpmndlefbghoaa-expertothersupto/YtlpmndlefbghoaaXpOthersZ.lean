/- Networks that are not chosen change nothing: plain functions. -/
import Derived.Test.YtlpmndlefbghoaaRows
import Derived.Test.YtlpmndlefbghoaaSat
import Derived.Test.YtlpmndlefbghoaaAdds
import Derived.Test.YtlpmndlefbghoaaExp
import Derived.Test.YtlpmndlefbghoaaFitZ
import Derived.Test.YtlpmndlefbghoaaMats
import Derived.Test.YtlpmndlefbghoaaSoft
import Derived.Test.YtlpmndlefbghoaaRanks
import Derived.Test.YtlpmndlefbghoaaAskZ
import Derived.Test.YtlpmndlefbghoaaXpRouteZ
import Derived.Test.YtlpmndlefbghoaaXpMixZ
import Derived.WalkKit
import Derived.ProofKit
import Derived.OpenShut
import Derived.Below
import Derived.WalkLawsBesides
import Derived.Deep.QuietTactic
import Derived.BigQuiet
namespace Go.Proofs.Ytlpmndlefbghoaa
open Go.ChangeShapes Go.WideShapes Go.ChangeAt Go.RowKit
set_option linter.unusedVariables false
set_option linter.unusedSimpArgs false

/-- whether a place is among the first ones -/
def inTo (P : List Int) (i : Nat) : Nat → Bool
  | 0 => false
  | q + 1 => inTo P i q || (P.getD q 0 == (i : Int))

theorem inTo_of {P : List Int} {i : Nat} : ∀ {q j : Nat}, j < q → P.getD j 0 = (i : Int) → inTo P i q = true := by
  intro q
  induction q with
  | zero => intro j h; omega
  | succ q ih =>
    intro j h e
    show (inTo P i q || (P.getD q 0 == (i : Int))) = true
    by_cases hj : j = q
    · subst hj
      rw [e]
      simp
    · rw [ih (by omega) e]
      rfl

theorem all_same {l : List Nat} {f g : Nat → Bool} (h : ∀ x ∈ l, f x = g x) : l.all f = l.all g := by
  induction l with
  | nil => rfl
  | cons x l ih =>
    rw [List.all_cons, List.all_cons, h x List.mem_cons_self, ih (fun y hy => h y (List.mem_cons_of_mem _ hy))]

theorem blend_same {s : Nat → Int} {ro ro' : Nat → List Int} (i : Nat) : ∀ {k : Nat}, (∀ j, j < k → ro j = ro' j) → blendTo s ro i k = blendTo s ro' i k := by
  intro k
  induction k with
  | zero => intro _; rfl
  | succ k ih =>
    intro h
    show addZ (blendTo s ro i k) (s k * (ro k).getD i 0) = addZ (blendTo s ro' i k) (s k * (ro' k).getD i 0)
    rw [ih (fun j hj => h j (by omega)), h k (by omega)]

theorem mixE_many {ro xs : List Int} {n : Nat} (U D : Nat → List Int) (h : Int) {k : Int} (hn : 1 < n) (hr : routeB ro (n : Int) k xs = true) : mixE ro n n U D h k xs = if restB ro U D h k.toNat xs then 0 else 21 := by
  unfold mixE
  rw [if_neg (by omega), if_neg (by omega), if_neg (by rw [hr]; decide)]

theorem mix_others {ro xs : List Int} {n : Nat} {U D U' D' : Nat → List Int} {h k : Int} (hn : 1 < n) (hr : routeB ro (n : Int) k xs = true) (hU : ∀ j, j < k.toNat → U' (plc ro xs j) = U (plc ro xs j)) (hD : ∀ j, j < k.toNat → D' (plc ro xs j) = D (plc ro xs j)) :
    mixE ro n n U' D' h k xs = mixE ro n n U D h k xs ∧ mixR ro n n U' D' h k xs = mixR ro n n U D h k xs := by
  have e0 : restB ro U' D' h k.toNat xs = restB ro U D h k.toNat xs := all_same fun j hj => by
    have hj' := List.mem_range.1 hj
    rw [hU j hj', hD j hj']
  have e1 : mixE ro n n U' D' h k xs = mixE ro n n U D h k xs := by
    rw [mixE_many U' D' h hn hr, mixE_many U D h hn hr, e0]
  refine ⟨e1, ?_⟩
  unfold mixR mixL
  rw [e1, if_neg (show ¬ n = 1 by omega), if_neg (show ¬ n = 1 by omega)]
  have e2 : sumL ro U' D' k xs = sumL ro U D k xs := by
    unfold sumL
    refine List.map_congr_left fun i _ => ?_
    unfold blendZ
    rw [blend_same i (fun j hj => show rowsL ro U' D' xs j = rowsL ro U D xs j by unfold rowsL; rw [hU j hj, hD j hj])]
  rw [e2]

theorem mix_refused {ro xs : List Int} {n m : Nat} (U D : Nat → List Int) (h : Int) {k : Int} (hn : 1 < n) (hr : routeB ro (n : Int) k xs = false ∨ n ≠ m) : ¬ mixE ro n m U D h k xs = 0 := by
  unfold mixE
  by_cases c1 : n = 0 ∨ n ≠ m
  · rw [if_pos c1]; decide
  · rw [if_neg c1, if_neg (by omega)]
    rcases hr with hr | hr
    · rw [if_pos hr]; exact routeE_ne hr
    · exact absurd (.inr hr) c1

end Go.Proofs.Ytlpmndlefbghoaa
