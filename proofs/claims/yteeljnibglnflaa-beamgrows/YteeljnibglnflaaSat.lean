/- What each function of package sat gives back: contracts of the calls, whatever the world. -/
import Derived.Test.YteeljnibglnflaaRows
import Derived.WalkKit
import Derived.ProofKit
import Derived.OpenShut
import Derived.WalkLawsBesides
namespace Go.Proofs.Yteeljnibglnflaa

set_option maxRecDepth 20000

open Go.ChangeShapes Go.WideShapes Go.ChangeAt Go.RowKit

set_option linter.unusedVariables false

def clampZ (x : Int) : Int := if x < -2147483648 then -2147483648 else if 2147483647 < x then 2147483647 else x

theorem ret_int {k : IntKind} {a b : Int} (h : a = b) : Ending.returned (.int k a) = .returned (.int k b) := by rw [h]

theorem clamp_call (x : Int) (w : World) :
    Calls Try.prog 34 #[.int .i64 x] w fun e w' => e = .returned (.int .i64 (clampZ x)) ∧ w' = w := by
  go_enter Try.func34, Try.ntmps34
  go_wp2
  all_goals (go_ret; refine ⟨ret_int ?_, rfl⟩; unfold clampZ; repeat' split)
  all_goals omega

theorem clampZ_bounds (x : Int) : -2147483648 ≤ clampZ x ∧ clampZ x ≤ 2147483647 := by
  unfold clampZ
  repeat' split
  all_goals omega

def noughtZ (a : Int) : Int := if 0 < a then 2147483647 else if a < 0 then -2147483648 else 0

theorem nought_call (a : Int) (w : World) :
    Calls Try.prog 39 #[.int .i64 a] w fun e w' => e = .returned (.int .i64 (noughtZ a)) ∧ w' = w := by
  go_enter Try.func39, Try.ntmps39
  go_wp2
  all_goals (go_ret; refine ⟨ret_int ?_, rfl⟩; unfold noughtZ; repeat' split)
  all_goals omega

def divZ (a b : Int) : Int := if clampZ b = 0 then noughtZ (clampZ a) else clampZ (wrap64 ((clampZ a * 65536).tdiv (clampZ b)))

theorem div_call (a b : Int) (ha : (Lit.int .i64 a).wf = true) (hb : (Lit.int .i64 b).wf = true) (w : World) :
    Calls Try.prog 28 #[.int .i64 a, .int .i64 b] w fun e w' => e = .returned (.int .i64 (divZ a b)) ∧ w' = w := by
  have ba := clampZ_bounds a
  have bb := clampZ_bounds b
  by_cases z : clampZ b = 0
  · have e : divZ a b = noughtZ (clampZ a) := by unfold divZ; rw [if_pos z]
    rw [e]; clear e
    have z' : (clampZ b == 0) = true := by simp [z]
    clear z
    go_enter Try.func28, Try.ntmps28
    go_wp2_with (first | (go_at_call 34; refine (clamp_call _ _).mono ?_; rintro e w' ⟨rfl, rfl⟩) | (go_at_call 39; refine (nought_call _ _).mono ?_; rintro e w' ⟨rfl, rfl⟩))
    go_ret
    exact ⟨rfl, rfl⟩
  · have e : divZ a b = clampZ (wrap64 ((clampZ a * 65536).tdiv (clampZ b))) := by unfold divZ; rw [if_neg z]
    rw [e]; clear e
    have z' : (clampZ b == 0) = false := by simp [z]
    go_enter Try.func28, Try.ntmps28
    go_wp2_with (first | (go_at_call 34; refine (clamp_call _ _).mono ?_; rintro e w' ⟨rfl, rfl⟩) | (go_at_call 39; refine (nought_call _ _).mono ?_; rintro e w' ⟨rfl, rfl⟩))
    go_ret
    exact ⟨rfl, rfl⟩

end Go.Proofs.Yteeljnibglnflaa
