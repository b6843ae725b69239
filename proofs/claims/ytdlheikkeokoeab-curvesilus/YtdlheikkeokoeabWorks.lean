/- What works, the statements' own first look, gives back: the contract of the call. -/
import Derived.Test.YtdlheikkeokoeabRows
import Derived.Test.YtdlheikkeokoeabSat
import Derived.Test.YtdlheikkeokoeabTabs
import Derived.Test.YtdlheikkeokoeabArith
import Derived.Test.YtdlheikkeokoeabExp
import Derived.Test.YtdlheikkeokoeabRoot
import Derived.WalkKit
import Derived.ProofKit
import Derived.OpenShut
import Derived.WalkLawsBesides
namespace Go.Proofs.Ytdlheikkeokoeab
open Go.ChangeShapes Go.WideShapes Go.ChangeAt Go.RowKit
set_option linter.unusedVariables false

theorem works_call (w : World) : Calls Try.prog 4 #[] w fun e w' => e = .returned (.bool true) ∧ Grown w w' := by
  have k1 : (expZ 0 == 65536) = true := by decide +kernel
  have k2 : (expZ (-2147483648) == 0) = true := by decide +kernel
  have k3 : (rsqrtZ 65536 == 65536) = true := by decide +kernel
  have k4 : (rsqrtZ 262144 == 32768) = true := by decide +kernel
  have k5 : (rsqrtZ 0 == 2147483647) = true := by decide +kernel
  have k6 : (sigZ 0 == 32768) = true := by decide +kernel
  have k7 : (cosZ 4 == 0) = true := by decide +kernel
  have k8 : (sinZ 4 == 65536) = true := by decide +kernel
  have k9 : (cosZ (-8) == -65536) = true := by decide +kernel
  have hg : Grown w w := Grown.refl w
  go_enter Try.func4, Try.ntmps4
  go_wp2_with (first | (go_at_call 6; refine (exp_call _ _).mono ?_; rintro e w' ⟨rfl, hg'⟩; replace hg := grown_trans hg hg'; clear hg') | (go_at_call 7; refine (rsqrt_call _ _).mono ?_; rintro e w' ⟨rfl, rfl⟩) | (go_at_call 8; refine (sig_call _ _).mono ?_; rintro e w' ⟨rfl, hg'⟩; replace hg := grown_trans hg hg'; clear hg') | (go_at_call 9; refine (cos_call _ _).mono ?_; rintro e w' ⟨rfl, hg'⟩; replace hg := grown_trans hg hg'; clear hg') | (go_at_call 10; refine (sin_call _ _).mono ?_; rintro e w' ⟨rfl, hg'⟩; replace hg := grown_trans hg hg'; clear hg'))
  all_goals go_ret
  all_goals exact ⟨rfl, hg⟩

end Go.Proofs.Ytdlheikkeokoeab
