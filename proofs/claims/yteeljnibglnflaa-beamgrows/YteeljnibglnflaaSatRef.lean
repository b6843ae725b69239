/- What each of the document's answers of layer 1 gives back: contracts of the calls, whatever the world. -/
import Derived.Test.YteeljnibglnflaaRows
import Derived.Test.YteeljnibglnflaaSat
import Derived.WalkKit
import Derived.ProofKit
import Derived.OpenShut
import Derived.WalkLawsBesides
namespace Go.Proofs.Yteeljnibglnflaa

set_option maxRecDepth 20000

open Go.ChangeShapes Go.WideShapes Go.ChangeAt Go.RowKit

set_option linter.unusedVariables false

theorem refClamp_call (x : Int) (w : World) :
    Calls Try.prog 37 #[.int .i64 x] w fun e w' => e = .returned (.int .i64 (clampZ x)) ∧ w' = w := by
  go_enter Try.func37, Try.ntmps37
  go_wp2
  all_goals (go_ret; refine ⟨ret_int ?_, rfl⟩; unfold clampZ; repeat' split)
  all_goals (try split at *)
  all_goals omega

theorem refDiv_call (a b : Int) (ha : (Lit.int .i64 a).wf = true) (hb : (Lit.int .i64 b).wf = true) (w : World) :
    Calls Try.prog 29 #[.int .i64 a, .int .i64 b] w fun e w' => e = .returned (.int .i64 (divZ a b)) ∧ w' = w := by
  have ba := clampZ_bounds a
  have bb := clampZ_bounds b
  by_cases z : clampZ b = 0
  · have e : divZ a b = noughtZ (clampZ a) := by unfold divZ; rw [if_pos z]
    rw [e]; clear e
    have z' : (clampZ b == 0) = true := by simp [z]
    clear z
    go_enter Try.func29, Try.ntmps29
    go_wp2_with (first | (go_at_call 37; refine (refClamp_call _ _).mono ?_; rintro e w' ⟨rfl, rfl⟩))
    all_goals (go_ret; refine ⟨ret_int ?_, rfl⟩; unfold noughtZ; repeat' split)
    all_goals omega
  · have e : divZ a b = clampZ (wrap64 ((clampZ a * 65536).tdiv (clampZ b))) := by unfold divZ; rw [if_neg z]
    rw [e]; clear e
    have z' : (clampZ b == 0) = false := by simp [z]
    go_enter Try.func29, Try.ntmps29
    go_wp2_with (first | (go_at_call 37; refine (refClamp_call _ _).mono ?_; rintro e w' ⟨rfl, rfl⟩))
    go_ret
    exact ⟨rfl, rfl⟩

end Go.Proofs.Yteeljnibglnflaa
