/- With one network chosen: what is made is what that one makes. -/
import Derived.Test.YtlpmndlefbghoaaRows
import Derived.Test.YtlpmndlefbghoaaSat
import Derived.Test.YtlpmndlefbghoaaAdds
import Derived.Test.YtlpmndlefbghoaaExp
import Derived.Test.YtlpmndlefbghoaaRefExp
import Derived.Test.YtlpmndlefbghoaaFitZ
import Derived.Test.YtlpmndlefbghoaaMats
import Derived.Test.YtlpmndlefbghoaaSoft
import Derived.Test.YtlpmndlefbghoaaRanks
import Derived.Test.YtlpmndlefbghoaaRank
import Derived.Test.YtlpmndlefbghoaaAskZ
import Derived.Test.YtlpmndlefbghoaaXpRouteZ
import Derived.Test.YtlpmndlefbghoaaXpMixZ
import Derived.WalkKit
import Derived.ProofKit
import Derived.OpenShut
import Derived.Below
import Derived.WalkLawsBesides
import Derived.Deep.QuietTactic
import Derived.BigQuiet
namespace Go.Proofs.Ytlpmndlefbghoaa
open Go.ChangeShapes Go.WideShapes Go.ChangeAt Go.RowKit
set_option linter.unusedVariables false
set_option linter.unusedSimpArgs false

theorem shift_whole (c : Int) (h0 : -2147483648 ≤ c) (h1 : c ≤ 2147483647) : shiftZ (65536 * c) 16 = c := by
  unfold shiftZ shN
  rw [if_neg (by decide), show min (16 : Int) 62 = 16 by decide, show ((16 : Int).toNat - 1) = 15 by decide, show ((2 : Int) ^ 15) = 32768 by decide]
  split <;> omega

theorem addZ_in (a b : Int) (h0 : -9223372036854775808 ≤ a + b) (h1 : a + b ≤ 9223372036854775807) : addZ a b = a + b := by
  unfold addZ
  rw [if_neg (by omega), if_neg (by omega)]

theorem soft_one (s : Int) : softZ [s] 1 = [65536] := by
  have e : softZ [s] 1 = [shareF [s] (topZ (-2147483648) [s] 1) (sumE [s] (topZ (-2147483648) [s] 1) 1) 0] := by simp [softZ]
  rw [e]
  have t : topZ (-2147483648) [s] 1 = clampZ s := by
    show max (-2147483648) (clampZ ([s].getD 0 0)) = clampZ s
    have := clampZ_bounds s
    simp only [List.getD_cons_zero]
    omega
  rw [t]
  have p : powE [s] (clampZ s) 0 = 65536 := by
    unfold powE
    simp only [List.getD_cons_zero]
    rw [show clampZ s - clampZ s = 0 by omega]
    decide +kernel
  unfold shareF sumE sumE
  rw [p]
  decide +kernel


theorem sh_one (ro xs : List Int) : sh ro 1 xs 0 = 65536 := by
  unfold sh routeS
  have e : chosenL ro (1 : Int).toNat xs = [(matL ro xs).getD (plc ro xs 0) 0] := by simp [chosenL]
  rw [e, show (1 : Int).toNat = 1 from rfl, soft_one]
  rfl

theorem sum_one {ro xs : List Int} {U D : Nat → List Int} {h : Int} (hb : oneB (U (plc ro xs 0)) (D (plc ro xs 0)) h xs = true) : sumL ro U D 1 xs = oneL (U (plc ro xs 0)) (D (plc ro xs 0)) xs := by
  refine List.ext_getElem (by rw [sumL_length, oneL_length hb]) fun i h1 h2 => ?_
  have hi : i < xs.length := by rw [sumL_length] at h1; exact h1
  have e1 := sumL_at ro U D 1 xs i hi
  have e2 : (sumL ro U D 1 xs).getD i 0 = (sumL ro U D 1 xs)[i] := by simp [List.getD, h1]
  have e3 : (oneL (U (plc ro xs 0)) (D (plc ro xs 0)) xs).getD i 0 = (oneL (U (plc ro xs 0)) (D (plc ro xs 0)) xs)[i] := by simp [List.getD, h2]
  rw [← e2, ← e3, e1]
  have c := matL_bounds (D (plc ro xs 0)) (hidL (U (plc ro xs 0)) xs) i
  show clampZ (shiftZ (addZ 0 (sh ro 1 xs 0 * (oneL (U (plc ro xs 0)) (D (plc ro xs 0)) xs).getD i 0)) 16) = _
  unfold oneL
  rw [sh_one]
  generalize (matL (D (plc ro xs 0)) (hidL (U (plc ro xs 0)) xs)).getD i 0 = v at c ⊢
  rw [addZ_in _ _ (by omega) (by omega), Int.zero_add, shift_whole _ c.1 c.2, clampZ_of _ c.1 c.2]

theorem rest_one (ro : List Int) (U D : Nat → List Int) (h : Int) (xs : List Int) : restB ro U D h (1 : Int).toNat xs = oneB (U (plc ro xs 0)) (D (plc ro xs 0)) h xs := by
  simp [restB]

theorem mix_first {ro xs : List Int} {n : Nat} (U D : Nat → List Int) (h : Int) (hn : 1 < n) (hf : fitB ro.length (n : Int) xs.length = true) :
    mixE ro n n U D h 1 xs = (if oneB (U (plc ro xs 0)) (D (plc ro xs 0)) h xs then 0 else 21) ∧ mixR ro n n U D h 1 xs = (if oneB (U (plc ro xs 0)) (D (plc ro xs 0)) h xs then oneL (U (plc ro xs 0)) (D (plc ro xs 0)) xs else []) := by
  have hr : routeB ro (n : Int) 1 xs = true := by
    unfold routeB
    rw [hf, decide_eq_true (by omega : (1 : Int) ≤ 1), decide_eq_true (by omega : (1 : Int) ≤ (n : Int))]
    rfl
  have e1 : mixE ro n n U D h 1 xs = (if oneB (U (plc ro xs 0)) (D (plc ro xs 0)) h xs then 0 else 21) := by
    unfold mixE
    rw [if_neg (by omega), if_neg (by omega), if_neg (by rw [hr]; decide), rest_one]
  refine ⟨e1, ?_⟩
  unfold mixR mixL
  rw [e1, if_neg (show ¬ n = 1 by omega)]
  cases hb : oneB (U (plc ro xs 0)) (D (plc ro xs 0)) h xs with
  | true => exact sum_one hb
  | false => rfl

theorem first_lt {ro xs : List Int} {n : Nat} (hn : 1 < n) (hf : fitB ro.length (n : Int) xs.length = true) : plc ro xs 0 < n ∧ maxZ (matL ro xs) = (plc ro xs 0 : Nat) := by
  have hE := (fitB_yes hf).2.2
  have hl := matL_length ro xs
  have := (places_ordered (matL ro xs)).lt (m := 0) (by omega)
  refine ⟨by unfold plc; omega, ?_⟩
  unfold maxZ plc
  rw [if_neg (by omega)]

end Go.Proofs.Ytlpmndlefbghoaa
