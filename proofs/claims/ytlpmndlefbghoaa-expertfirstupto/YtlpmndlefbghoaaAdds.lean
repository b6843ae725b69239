/- What the sums of layer 1 give back: the contract of the program's and of the document's. -/
import Derived.Test.YtlpmndlefbghoaaRows
import Derived.Test.YtlpmndlefbghoaaSat
import Derived.WalkKit
import Derived.ProofKit
import Derived.OpenShut
import Derived.WalkLawsBesides
namespace Go.Proofs.Ytlpmndlefbghoaa
open Go.ChangeShapes Go.WideShapes Go.ChangeAt Go.RowKit
set_option linter.unusedVariables false

def addZ (a b : Int) : Int := if 9223372036854775807 < a + b then 9223372036854775807 else if a + b < -9223372036854775808 then -9223372036854775808 else a + b

theorem add_call (a b : Int) (ha : (Lit.int .i64 a).wf = true) (hb : (Lit.int .i64 b).wf = true) (w : World) :
    Calls Try.prog 47 #[.int .i64 a, .int .i64 b] w fun e w' => e = .returned (.int .i64 (addZ a b)) ∧ w' = w := by
  have ba := bounds_i64 ha
  have bb := bounds_i64 hb
  go_enter Try.func47, Try.ntmps47
  go_wp2
  all_goals (go_ret; refine ⟨ret_int ?_, rfl⟩; have ew := wrap64_eq (a + b); unfold addZ; repeat' split)
  all_goals omega

theorem refAdd_call (a b : Int) (ha : (Lit.int .i64 a).wf = true) (hb : (Lit.int .i64 b).wf = true) (w : World) :
    Calls Try.prog 24 #[.int .i64 a, .int .i64 b] w fun e w' => e = .returned (.int .i64 (addZ a b)) ∧ w' = w := by
  have ba := bounds_i64 ha
  have bb := bounds_i64 hb
  go_enter Try.func24, Try.ntmps24
  go_wp2
  all_goals (go_ret; refine ⟨ret_int ?_, rfl⟩; have ew := wrap64_eq (a + b); unfold addZ; repeat' split)
  all_goals omega

theorem wf_addZ (a b : Int) : (Lit.int .i64 (addZ a b)).wf = true := by
  refine WalkArith.wf_i64 ?_
  unfold addZ
  repeat' split
  all_goals omega

end Go.Proofs.Ytlpmndlefbghoaa
