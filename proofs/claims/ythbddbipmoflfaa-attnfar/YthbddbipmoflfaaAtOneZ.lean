/- One row alone: what a head makes of it. -/
import Derived.Test.YthbddbipmoflfaaRows
import Derived.Test.YthbddbipmoflfaaSat
import Derived.Test.YthbddbipmoflfaaAdds
import Derived.Test.YthbddbipmoflfaaView
import Derived.Test.YthbddbipmoflfaaOwn
import Derived.Test.YthbddbipmoflfaaExp
import Derived.Test.YthbddbipmoflfaaOrder
import Derived.Test.YthbddbipmoflfaaSoft
import Derived.Test.YthbddbipmoflfaaParts
import Derived.Test.YthbddbipmoflfaaMean
import Derived.Test.YthbddbipmoflfaaAtPlain
import Derived.Test.YthbddbipmoflfaaAtCut
import Derived.Test.YthbddbipmoflfaaAtAll
import Derived.WalkKit
import Derived.ProofKit
import Derived.OpenShut
import Derived.Below
import Derived.WalkLawsBesides
import Derived.Deep.QuietTactic
import Derived.BigQuiet
namespace Go.Proofs.Ythbddbipmoflfaa
open Go.ChangeShapes Go.WideShapes Go.ChangeAt Go.RowKit
set_option linter.unusedVariables false
set_option linter.unusedSimpArgs false

theorem shift_whole (c : Int) (h0 : -2147483648 ≤ c) (h1 : c ≤ 2147483647) : shiftZ (65536 * c) 16 = c := by
  unfold shiftZ shN
  rw [if_neg (by decide), show min (16 : Int) 62 = 16 by decide, show ((16 : Int).toNat - 1) = 15 by decide, show ((2 : Int) ^ 15) = 32768 by decide]
  split <;> omega

theorem addZ_in (a b : Int) (h0 : -9223372036854775808 ≤ a + b) (h1 : a + b ≤ 9223372036854775807) : addZ a b = a + b := by
  unfold addZ
  rw [if_neg (by omega), if_neg (by omega)]

theorem soft_one (s : Int) : softZ [s] 1 = [65536] := by
  have e : softZ [s] 1 = [shareF [s] (topZ (-2147483648) [s] 1) (sumE [s] (topZ (-2147483648) [s] 1) 1) 0] := by simp [softZ]
  rw [e]
  have t : topZ (-2147483648) [s] 1 = clampZ s := by
    show max (-2147483648) (clampZ ([s].getD 0 0)) = clampZ s
    have := clampZ_bounds s
    simp only [List.getD_cons_zero]
    omega
  rw [t]
  have p : powE [s] (clampZ s) 0 = 65536 := by
    unfold powE
    simp only [List.getD_cons_zero]
    rw [show clampZ s - clampZ s = 0 by omega]
    decide +kernel
  unfold shareF sumE sumE
  rw [p]
  decide +kernel

theorem head_one (q : List Int) (K V : Nat → List Int) (d : Nat) (h : (V 0).length = d) : headZ q K V d 1 = (V 0).map clampZ := by
  unfold headZ
  have e : scoresZ q K d 1 = [scoreF q K d 0] := by simp [scoresZ]
  rw [e, soft_one]
  refine List.ext_getElem (by simp [h]) fun i h1 h2 => ?_
  simp only [List.getElem_map, List.getElem_range]
  have hi : i < (V 0).length := by simpa using h2
  have c := clampZ_bounds ((V 0)[i])
  show clampZ (shiftZ (addZ 0 ([65536].getD 0 0 * clampZ ((V 0).getD i 0))) 16) = _
  rw [show (V 0).getD i 0 = (V 0)[i] by simp [List.getD, hi], show [(65536 : Int)].getD 0 0 = 65536 from rfl, addZ_in _ _ (by omega) (by omega), Int.zero_add, shift_whole _ c.1 c.2, clamp_in _ c.1 c.2]

theorem all_one (q : List Int) (K V : Nat → List Int) (d m : Nat) (h : m * d ≤ (V 0).length) : allL q K V d 1 m = ((V 0).take (m * d)).map clampZ := by
  induction m with
  | zero => simp [allL]
  | succ m ih =>
    have e : (m + 1) * d = m * d + d := Nat.succ_mul m d
    rw [allL, ih (by omega), head_one _ _ _ _ (cutR_length V (m * d) d 0 (by omega)), e, List.take_add, List.map_append]
    rfl

end Go.Proofs.Ythbddbipmoflfaa
